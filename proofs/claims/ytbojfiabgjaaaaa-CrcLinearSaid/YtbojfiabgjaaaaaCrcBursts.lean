/-
  CrcBursts: FOR EVERY TEXT, EVERY PLACE AND EVERY PATTERN OF BITS THE LAW RETURNS TRUE (a text in which at most 32 bits that stand together are turned, the first of them one, has another sum) AND CHANGES NOTHING THAT WAS THERE.
  No condition beside the row's own (what can be read as data, within the model's reach).
-/
import Derived.Test.YtbojfiabgjaaaaaCrcParts
import Derived.Test.YtbojfiabgjaaaaaCrcBurstMath
namespace Go.Proofs.Ytbojfiabgjaaaaa
open Go.ChangeShapes Go.WideShapes Go.ChangeAt Go.RowKit
namespace Crc

theorem or_one (x : BitVec 32) : bits .or .u32 (v x) 1 = v (x ||| 1#32) := by
  have e : (1 : Int) = v 1#32 := by decide
  rw [e]
  show IntKind.u32.wrap ((BitVec.ofInt 32 (v x) ||| BitVec.ofInt 32 (v 1#32)).toNat : Int) = _
  rw [ofInt_v, ofInt_v]; exact wrap_v _
theorem or_one_low (x : BitVec 32) : (x ||| 1#32).getLsbD 0 = true := by simp
theorem round_place (z : Int) (n : Nat) (h0 : 0 < n) (h1 : n ≤ 20000) : ∃ p : Nat, (wrap64 (z.tmod (8 * (n : Int)) + 8 * (n : Int))).tmod (8 * (n : Int)) = (p : Int) ∧ p < 8 * n := by
  have h2 := Int.tmod_lt_of_pos z (show (0 : Int) < 8 * (n : Int) by omega)
  have h3 := Int.lt_tmod_of_pos z (show (0 : Int) < 8 * (n : Int) by omega)
  have e : wrap64 (z.tmod (8 * (n : Int)) + 8 * (n : Int)) = z.tmod (8 * (n : Int)) + 8 * (n : Int) := by unfold wrap64; omega
  rw [e, Int.tmod_eq_emod_of_nonneg (by omega)]
  have h4 := Int.emod_nonneg (z.tmod (8 * (n : Int)) + 8 * (n : Int)) (show 8 * (n : Int) ≠ 0 by omega)
  have h5 := Int.emod_lt_of_pos (z.tmod (8 * (n : Int)) + 8 * (n : Int)) (show (0 : Int) < 8 * (n : Int) by omega)
  exact ⟨((z.tmod (8 * (n : Int)) + 8 * (n : Int)) % (8 * (n : Int))).toNat, by omega, by omega⟩

theorem own_shape {w : World} {base : Nat} {e : TypeId} {s : Value} {n : Nat} {xs : List Value} (h : w.ownsRow base e 1 s n xs) (h0 : 0 < n) : ∃ g cap, s = .slice (some ⟨g, 0, none⟩) n cap ∧ base ≤ g ∧ g < w.heap.size := by
  rcases h.2 with ⟨_, h1⟩ | ⟨g, cap, cur, rfl, hb, hg, _⟩
  · omega
  · exact ⟨g, cap, rfl, hb, (Array.getElem?_eq_some_iff.1 hg).1⟩
theorem bit_of (y : BitVec 32) (j : Nat) : (bits .and .u32 (v y / 2 ^ j) 1 == 1) = y.getLsbD j := by
  have e : v y / 2 ^ j = v (y >>> j) := by
    have := shr_v y j
    rw [← this]
    norm_cast
  rw [e, low_v, BitVec.getLsbD_ushiftRight]
  cases y.getLsbD (j + 0) <;> rfl

theorem one_u8 (r : Nat) (hr : r < 8) : (2 : Int) ^ r % 256 = u (1#8 <<< r) := by
  have h2 : 2 ^ r < 2 ^ 8 := Nat.pow_lt_pow_right (by omega) hr
  unfold u
  rw [BitVec.toNat_shiftLeft, Nat.shiftLeft_eq]
  rw [show (1#8).toNat = 1 by decide, Nat.one_mul, Nat.mod_eq_of_lt h2]
  have h3 : ((2 ^ r : Nat) : Int) = (2 : Int) ^ r := by norm_cast
  rw [h3]
  have h4 : (2 : Int) ^ r < 256 := by rw [← h3]; omega
  have h5 : (0 : Int) ≤ 2 ^ r := by rw [← h3]; exact Int.natCast_nonneg _
  omega
theorem turn_u8 (xx : BitVec 8) (r : Nat) (hr : r < 8) : bits .xor .u8 (u xx) ((2 : Int) ^ r % 256) = u (xx ^^^ (1#8 <<< r)) := by rw [one_u8 r hr, xor_u]
theorem flips_hit {l : List (BitVec 8)} {p j : Nat} {y : BitVec 32} (h1 : p + j < 8 * l.length) (h2 : y.getLsbD j = true) {a r : Nat} (ha : a = (p + j) / 8) (hr : r = (p + j) % 8) :
    flips l p y (j + 1) = (flips l p y j).set a ((flips l p y j).getD a 0#8 ^^^ (1#8 <<< r)) := by
  subst ha hr
  simp only [flips]
  rw [if_pos ⟨h1, h2⟩]
  rfl
theorem flips_miss {l : List (BitVec 8)} {p j : Nat} {y : BitVec 32} (h : ¬ (p + j < 8 * l.length ∧ y.getLsbD j = true)) : flips l p y (j + 1) = flips l p y j := by
  simp only [flips]
  rw [if_neg h]

set_option maxRecDepth 100000 in
set_option maxHeartbeats 3200000 in
theorem crcBursts_walk (A : Option Addr) (n c : Nat) (l : List (BitVec 8)) (z : Int) (x : BitVec 32) (w : World) (h1 : LowBytes w w.heap.size A n l) :
    Calls Try.prog 5 #[.slice A n c, .int .i64 z, .int .u32 (v x)] w fun e w' => e = .returned (.bool true) ∧ Below w.heap.size w w' := by
  have H1 := Lib.hid h1
  clear h1
  rcases Bool.eq_false_or_eq_true (decide (20000 ≤ n)) with t1 | t1
  · go_enter Try.func5, Try.ntmps5
    go_wp2_with (first
      | (go_at_call 8; refine (live_any _).mono ?_; rintro e w1 ⟨rfl, hb⟩; have HB := Lib.hid hb; clear hb)
      | (go_at_call 9; ((with_reducible refine (big_one (g := w1.heap.size + 1) ((H1.out.below HB.out).at_ (Nat.le_succ_of_le HB.out.size)) (Nat.succ_ne_self _) rfl).mono ?_); rintro e w2 ⟨rfl, rfl⟩)))
    go_ret
    exact ⟨rfl, HB.out.alloc HB.out.size _⟩
  · by_cases t2 : n = 0
    · have t2' : ((n : Int) == 0) = true := by simp; omega
      have T2 := Lib.hid t2
      clear t2
      go_enter Try.func5, Try.ntmps5
      go_wp2_with (first
        | (go_at_call 8; refine (live_any _).mono ?_; rintro e w1 ⟨rfl, hb⟩; have HB := Lib.hid hb; clear hb)
        | (go_at_call 9; ((with_reducible refine (big_one (g := w1.heap.size + 1) ((H1.out.below HB.out).at_ (Nat.le_succ_of_le HB.out.size)) (Nat.succ_ne_self _) rfl).mono ?_); rintro e w2 ⟨rfl, rfl⟩)))
      go_ret
      exact ⟨rfl, HB.out.alloc HB.out.size _⟩
    · have t2' : ((n : Int) == 0) = false := by simp; omega
      have hn0 : 0 < n := by omega
      have hn1 : n ≤ 20000 := by have := of_decide_eq_false t1; omega
      obtain ⟨p, hp, hp1⟩ := round_place z n hn0 hn1
      have hor := or_one x
      have Y := Lib.hid (or_one_low x)
      generalize x ||| 1#32 = y at *
      go_enter Try.func5, Try.ntmps5
      go_wp2_with (first
        | (go_at_call 8; refine (live_any _).mono ?_; rintro e w1 ⟨rfl, hb⟩; have HB := Lib.hid hb; clear hb)
        | (go_at_call 9; ((with_reducible refine (big_one (g := w1.heap.size + 1) ((H1.out.below HB.out).at_ (Nat.le_succ_of_le HB.out.size)) (Nat.succ_ne_self _) rfl).mono ?_); rintro e w2 ⟨rfl, rfl⟩))
        | (at_builtin
           refine wpList_append_bytes rfl (.const (.slice none 0 0)) (.tmp 37) rfl rfl w.heap.size (.slice none 0 0) 0 [] rfl (World.ownsRow_nil _ _ _ _) w.heap.size A n c l rfl ((H1.out.below (HB.out.alloc HB.out.size _)).at_ (Nat.le_refl _)) (by omega) (Nat.le_trans HB.out.size (by simp)) ?_
           intro s4 w4 hown4 hg4 hat4
           have O4 := Lib.hid hown4
           have G4 := Lib.hid hg4
           clear hown4 hg4 hat4))
      have O4' := O4.out
      rw [Nat.zero_add, List.nil_append] at O4'
      have B4 : Hid (Below w.heap.size w w4) := (HB.out.alloc HB.out.size (.cells #[.slice A n c] 24)).grown G4.out (Nat.le_trans HB.out.size (by simp)) (by simp [Value.ownBlock])
      obtain ⟨gb, cap, rfl, hgb, hgl⟩ := own_shape O4' hn0
      have OW := Lib.hid O4'
      have HGB := Lib.hid hgb
      clear O4' O4 G4 hgb hgl
      clear hp hor
      go_loopw [39] (fun i wr => ∃ j : Nat, j ≤ 32 ∧ i = .int .i64 j ∧ wr.ownsRow w.heap.size 5 1 (.slice (some ⟨gb, 0, none⟩) n cap) n ((flips l p y j).map cell8) ∧ Below w.heap.size w wr) (fun i _ => 32 - (intOf i).toNat)
      case atStart => exact ⟨0, by omega, rfl, OW.out, B4.out⟩
      case round =>
        obtain ⟨j, hj, rfl, hO, hB⟩ := hrel
        have HO := Lib.hid hO
        have HBR := Lib.hid hB
        clear hO hB OW B4
        by_cases hlt : j < 32
        · have hbit := bit_of y j
          by_cases hin : p + j < 8 * n
          · have hll : (flips l p y j).length = n := by rw [flips_length]; exact (H1.out.at_ (Nat.le_refl _)).1
            rcases Bool.eq_false_or_eq_true (y.getLsbD j) with hb | hb
            · rw [hb] at hbit
              obtain ⟨a, r, ha, hr, han, hr8⟩ : ∃ a r : Nat, ((p : Int) + (j : Int)) / 8 = (a : Int) ∧ ((p : Int) + (j : Int)) % 8 = (r : Int) ∧ a < n ∧ r < 8 := ⟨(p + j) / 8, (p + j) % 8, by omega, by omega, by omega, by omega⟩
              have hc := HO.out.cellAt a (by omega)
              have hget : (flips l p y j)[a]? = some ((flips l p y j).getD a 0#8) := by
                rw [List.getElem?_eq_getElem (by omega)]; simp [List.getD, List.getElem?_eq_getElem (show a < (flips l p y j).length by omega)]
              rw [List.getElem?_map, hget] at hc
              have hz := HO.out.frozenAt a
              generalize hxx : (flips l p y j).getD a 0#8 = xx at hc hget
              have HX := Lib.hid hxx
              have HLL := Lib.hid hll
              have hc' : wr.cell? ⟨gb, a, none⟩ = some (.int .u8 (u xx)) := hc
              clear hxx hll hc hget
              have HBB := Lib.hid hb
              clear hb
              have hln : l.length = n := (H1.out.at_ (Nat.le_refl _)).1
              have NX : Hid ((wr.setCell ⟨gb, a, none⟩ (.int .u8 (bits .xor .u8 (u xx) ((2 : Int) ^ r % 256)))).ownsRow w.heap.size 5 1 (.slice (some ⟨gb, 0, none⟩) n cap) n ((flips l p y (j + 1)).map cell8)) := by
                have h5 := (HO.out.stored a (.int .u8 (bits .xor .u8 (u xx) ((2 : Int) ^ r % 256)))).1
                rw [turn_u8 xx r hr8] at h5 ⊢
                rw [flips_hit (by omega) HBB.out (show a = (p + j) / 8 by omega) (show r = (p + j) % 8 by omega), List.map_set, HX.out]
                exact h5
              have NB : Hid (Below w.heap.size w (wr.setCell ⟨gb, a, none⟩ (.int .u8 (bits .xor .u8 (u xx) ((2 : Int) ^ r % 256))))) := HBR.out.setCell (p := ⟨gb, a, none⟩) HGB.out _
              clear hln
              go_wp2
              go_roundw
              case rel => exact ⟨j + 1, by omega, by go_num, NX.out, NB.out⟩
              case measure => simp [intOf]; omega
            · rw [hb] at hbit
              have hln : l.length = n := (H1.out.at_ (Nat.le_refl _)).1
              have NX : Hid (wr.ownsRow w.heap.size 5 1 (.slice (some ⟨gb, 0, none⟩) n cap) n ((flips l p y (j + 1)).map cell8)) := by
                show World.ownsRow _ _ _ _ _ _ _
                rw [flips_miss (by rw [hb]; simp)]
                exact HO.out
              clear hln hb hll
              go_wp2
              go_roundw
              case rel => exact ⟨j + 1, by omega, by go_num, NX.out, HBR.out⟩
              case measure => simp [intOf]; omega
          · have hln : l.length = n := (H1.out.at_ (Nat.le_refl _)).1
            have NX : Hid (wr.ownsRow w.heap.size 5 1 (.slice (some ⟨gb, 0, none⟩) n cap) n ((flips l p y (j + 1)).map cell8)) := by
              show World.ownsRow _ _ _ _ _ _ _
              rw [flips_miss (by rw [hln]; omega)]
              exact HO.out
            have hd : decide ((p : Int) + (j : Int) < 8 * (n : Int)) = false := by simp; omega
            clear hln hbit
            go_wp2
            go_roundw
            case rel => exact ⟨j + 1, by omega, by go_num, NX.out, HBR.out⟩
            case measure => simp [intOf]; omega
        · have h32 : j = 32 := by omega
          subst h32
          have hln : l.length = n := (H1.out.at_ (Nat.le_refl _)).1
          have NE : (v (goes 0#32 l) != v (goes 0#32 (flips l p y 32))) = true := by
            have h5 := goes_flips l p y (by omega) Y.out
            simp only [bne_iff_ne, ne_eq]
            exact fun h6 => h5 (v_inj h6)
          obtain ⟨A', c', hA', hC⟩ := own_bytes HO.out (by omega)
          injection hA' with hA1 hA2 hA3
          subst hA1 hA3
          have PC := Lib.hid (hC.at_ (Nat.le_refl _))
          have P1 := Lib.hid ((H1.out.below HBR.out).at_ (g := wr.heap.size) HBR.out.size)
          clear hC hln hA2
          go_wp2_with (first
            | (go_at_call 10; ((with_reducible refine (st_new rfl).mono ?_); rintro e w3 ⟨rfl, hM⟩; have S0 := Lib.hid hM; clear hM))
            | (go_at_call 11; ((with_reducible refine (st_sum_one S0.out (by omega) (by omega) P1.out rfl).mono ?_); rintro e w6 ⟨rfl, hM⟩; have S6 := Lib.hid hM; clear hM))
            | (go_at_call 11; ((with_reducible refine (st_sum_one S6.out (by omega) (by omega) PC.out rfl).mono ?_); rintro e w7 ⟨rfl, hM⟩; have S7 := Lib.hid hM; clear hM)))
          go_ret
          exact ⟨rfl, S7.out.low HBR.out HBR.out.size HBR.out.size⟩

theorem crcBursts_says : Frame.Says Rows.crcBurstsSpec 3 := by
  refine ⟨rfl, fun H ds h => ?_, fun H ds h => ?_, fun H ds h => ?_⟩ <;>
  · match ds, h with
    | [d1, d2, d3], _ => rfl

theorem crcBursts_walks : Frame.Walks 5 [24, 3, 23] := by
  intro H enc W args ds ps base hok hA hsz
  obtain ⟨v0, vs0, d0, ds0, p0, q0, hargs, rfl, rfl, h0, r0⟩ := trodAll_cons hA
  obtain ⟨v1, vs1, d1, ds1, p1, q1, rfl, rfl, rfl, h1, r1⟩ := trodAll_cons r0
  obtain ⟨v2, vs2, d2, ds2, p2, q2, rfl, rfl, rfl, h2, r2⟩ := trodAll_cons r1
  obtain ⟨rfl, rfl, rfl⟩ := trodAll_nil r2
  obtain rfl : args = #[v0, v1, v2] := by cases args; simp_all
  obtain ⟨A, n, c, l, rfl, l0⟩ := open_bytes (hok 0 _ v0 rfl rfl) h0 (sized_arg hsz (j := 0) rfl rfl)
  obtain ⟨z, rfl, rfl, rfl, wz⟩ := open_int Try.underlying3 (hok 1 _ v1 rfl rfl) h1
  obtain ⟨x, rfl, rfl, rfl, wx⟩ := open_int Try.underlying23 (hok 2 _ v2 rfl rfl) h2
  obtain ⟨x, rfl⟩ := word_of wx
  exact crcBursts_walk A n c l z x W l0

theorem crcBursts_over : Rows.crcBurstsRow.holds Try.pinned (OpenSpec.ofChange Rows.crcBurstsSpec) :=
  OpenClaim.holds_of_wide 5 Try.f5 rfl rfl rfl rfl rfl rfl rfl ⟨rfl, rfl, rfl, rfl, rfl⟩ rfl rfl rfl rfl rfl (by kernel_rfl) Try.func5 (by kernel_rfl)
    (of_decide_eq_true (by kernel_rfl)) (by unfold Func.isWrapper; first | (rw [if_pos (by decide +kernel)]; kernel_rfl) | (rw [if_neg (by decide +kernel)]; exact ⟨rfl, rfl⟩))
    (fun os started H enc _ => Frame.lifted (started := started) Try.underlying4 (by kernel_rfl) Try.func5 (n := 3) (by rw [Try.params5]; rfl) crcBursts_says (by rw [Try.params5]; kernel_rfl) (by kernel_rfl)
      (ChangeSpec.witness6 (enc := enc) (C := Try.checked) false ⟨#[], #[.slice none 0 0, .int .i64 0, .int .u32 0], []⟩ 8 (by kernel_rfl) (by kernel_rfl) (by kernel_rfl) (by kernel_rfl))
      (by rw [Try.params5]; exact crcBursts_walks))
end Crc
/-- The given statement. -/
theorem crcBursts_holds : Rows.CrcBurstsSaid := Crc.crcBursts_over
end Go.Proofs.Ytbojfiabgjaaaaa
