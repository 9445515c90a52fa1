/-
  THE STATEMENT CacheFills: its walk.
-/
import Derived.Test.YtfngebikihdogaaCacFillsP
import Derived.Test.YtfngebikihdogaaCut
namespace Go.Proofs.Ytfngebikihdogaa
open Go.RowKit Mem Box GM
namespace Cac
theorem text_row1 (w : World) (A : Option Addr) : RowS slC 1 (w.alloc (.cells #[.slice A 16 16] 32)) (some ⟨w.heap.size, 0, none⟩) 1 1 [A] := by
  have hc := Cells.new w #[.slice A 16 16] 32
  refine ⟨rfl, by omega, by omega, fun _ => ⟨_, _, rfl, hc.lt, fun i y hy j u hu => ?_⟩⟩
  have hi : i = 0 := by have := (List.getElem?_eq_some_iff.1 hy).1; simpa using this
  subst hi
  simp at hy
  subst hy
  rw [show 0 + 0 * 1 + j = j by omega, hc.cell]
  simpa [slC] using hu
set_option maxRecDepth 100000 in
set_option maxHeartbeats 25600000 in
theorem fills_walk (most lba ver many : Int) (w : World) : Calls Try.prog 5 #[.int .i64 most, .int .i64 lba, .int .i64 ver, .int .i64 many] w fun e w' => e = .returned (.bool true) ∧ Below w.heap.size w w' := by
  obtain ⟨r1, P, k1, k2, k3, k4, k5, k6⟩ : ∃ (r : Int) (j : Nat), Int.tmod most 20 = r ∧ -20 < r ∧ r < 20 ∧ Int.tmod (r + 20) 20 = j ∧ (r + 20) % 20 = j ∧ j < 20 := Cut.cut_at most 20 (by omega)
  obtain ⟨r2, Q, q1, q2, q3, q4, q5, q6⟩ : ∃ (r : Int) (j : Nat), Int.tmod many 30 = r ∧ -30 < r ∧ r < 30 ∧ Int.tmod (r + 30) 30 = j ∧ (r + 30) % 30 = j ∧ j < 30 := Cut.cut_at many 30 (by omega)
  obtain ⟨C, hCm⟩ : ∃ C : Nat, min (P : Int) (Q : Int) = (C : Int) := ⟨min P Q, by omega⟩
  have hCP : Hid (min Q P = C) := by show _ = _; omega
  have hmn := @run_min2
  have HN := fun w0 : World => Lib.hid (new_cb (base := w.heap.size) (P : Int) w0)
  obtain ⟨base, hbase⟩ : ∃ b, b = w.heap.size := ⟨_, rfl⟩
  rw [← hbase] at HN ⊢
  have HBS := Lib.hid hbase
  have HLV := Lib.hid (live_any w)
  clear hbase
  rcases e1 : decide (lba < 0)
  · rcases e2 : decide ((1099511627776 : Int) < lba)
    · rcases e3 : decide (ver < 0)
      · have hl0 : 0 ≤ lba := by have := of_decide_eq_false e1; omega
        have hl1 : lba ≤ 1099511627776 := by have := of_decide_eq_false e2; omega
        have hv0 : 0 ≤ ver := by have := of_decide_eq_false e3; omega
        go_enter Try.func5, Try.ntmps5
        go_wp2_with fail
        refine HLV.out.mono ?_
        rintro e w1 ⟨rfl, hb⟩
        have L1 : Hid (Below base w w1) := by show Below _ _ _; rw [HBS.out]; exact hb
        clear hb HLV
        go_wp2_with fail
        refine ((HN w1).out (by have := L1.out.size; have := HBS.out; omega)).mono ?_
        rintro e w2 ⟨rfl, hC, hB⟩
        rw [show max (P : Int) 0 = (P : Int) by omega] at hC
        have L2 := Lib.hid (L1.out.trans (hB.mono (show base ≤ w1.heap.size by have := L1.out.size; have := HBS.out; omega)))
        obtain ⟨g, hg⟩ : ∃ g, g = w1.heap.size + 1 := ⟨_, rfl⟩
        obtain ⟨r, hr⟩ : ∃ r, r = w1.heap.size := ⟨_, rfl⟩
        rw [← hg, ← hr] at hC
        rw [← hg]
        have C2 := Lib.hid hC
        clear hC hB HN hg hr k1 k2 k3 k4 k5 q1 q2 q3 q4 q5 e1 e2 e3
        have HT := fun (n : Int) w => Lib.hid (text_any n w)
        go_wp2_with fail
        go_loopw [11, 12, 41] (fun l _ i wr => ∃ (k : Nat) (X : Option Addr) (d : Nat) (As : List (Option Addr)), i = .int .i64 k ∧ l = .slice X k d ∧ k ≤ Q ∧ Hid (Below base w wr ∧ CB base wr g r P [] 0 0 ∧ OwnS.Owns slC 1 32 base wr (.slice X k d) k As ∧ ∀ (i : Nat) B, As[i]? = some B → TextAt wr B (tx i))) (fun _ _ i _ => Q - (intOf i).toNat)
        case atStart => exact ⟨0, none, 0, [], rfl, rfl, by omega, L2.out, C2.out, OwnS.Owns.nil _ _ _ _ _, fun i B h => by simp at h⟩
        case round =>
          obtain ⟨k, X, d, As, rfl, rfl, hk, hH⟩ := hrel
          have LR := Lib.hid hH.out.1
          have CR := Lib.hid hH.out.2.1
          have OR := Lib.hid hH.out.2.2.1
          have TR := Lib.hid hH.out.2.2.2
          clear hH
          by_cases hlt : k < Q
          · have hk0 : (0 : Int) ≤ (k : Int) := by omega
            have hkn : (k : Int) < (Q : Int) := by omega
            go_wp2_with fail
            refine (HT _ wr).out.mono ?_
            rintro e w4 ⟨A, rfl, hT, hB⟩
            have L4 := Lib.hid (LR.out.trans (hB.mono CR.out.base))
            have C4 := Lib.hid (CR.out.below hB)
            have O4 := Lib.hid (OR.out.below hB)
            have T4 := Lib.hid (fun i B (h : As[i]? = some B) => (TR.out i B h).below hB)
            have X4 := Lib.hid hT
            have B5 : Hid (Below w4.heap.size w4 (w4.alloc (.cells #[.slice A 16 16] 32))) := (Below.refl _ w4).alloc (Nat.le_refl _) _
            have L5 := Lib.hid (L4.out.trans (B5.out.mono C4.out.base))
            have C5 := Lib.hid (C4.out.below B5.out)
            have O5 := Lib.hid (O4.out.below B5.out)
            have R5 := Lib.hid (text_row1 w4 A)
            clear hT hB
            go_wp2_with (at_builtin
                         refine OwnS.wpList_append fitS Try.underlying46 info_text rfl (by omega) rfl (.tmp 44) (.tmp 47) rfl rfl base (.slice X k d) k As rfl O5.out (some ⟨w4.heap.size, 0, none⟩) 1 1 [A] rfl R5.out (by omega) C5.out.base ?_
                         intro X' d' w6 hO hG hloc
                         have O6 := Lib.hid hO
                         have G6 := Lib.hid hG
                         clear hO hG hloc)
            have L6 := Lib.hid (L5.out.trans (OwnS.below_row O5.out G6.out C5.out.base))
            have C6 := Lib.hid (cb_grown C5.out O5.out (by decide) (by decide) G6.out)
            have T6 : Hid (∀ (i : Nat) B, (As ++ [A])[i]? = some B → TextAt w6 B (tx i)) := fun i B h => by
              have hl := O5.out.2
              rcases Nat.lt_or_ge i As.length with hi | hi
              · rw [List.getElem?_append_left hi] at h
                exact text_grown ((T4.out i B h).below B5.out) O5.out (by decide) G6.out
              · rw [List.getElem?_append_right hi] at h
                have h2 : i - As.length = 0 := by have := (List.getElem?_eq_some_iff.1 h).1; simpa using this
                rw [h2] at h
                simp at h
                subst h
                have h3 : i = k := by omega
                rw [h3]
                exact text_grown (X4.out.below B5.out) O5.out (by decide) G6.out
            go_roundw
            case rel => exact ⟨k + 1, X', d', _, by go_num, rfl, by omega, L6.out, C6.out, O6.out, T6.out⟩
            case measure => simp [intOf]; omega
          · obtain rfl : k = Q := by omega
            have HF := Lib.hid (fill_cb (lba := lba) (ver := ver) (f := fun i => tx i) (Ls := filled lba ver P) CR.out OR.out TR.out rfl (fun k _ => fill1 lba ver P k) (fun j _ x hx => by
              have h1 := List.mem_of_find?_eq_some hx
              have h2 := List.find?_some hx
              have h3 := filled_lba h1
              simp at h2
              omega) hl0 hl1 (by omega) hv0)
            -- THE END
            clear HT
            go_wp2_with fail
            refine HF.out.mono ?_
            rintro e w4 ⟨rfl, ns1, hk1, hC, hB⟩
            have L4 := Lib.hid (LR.out.trans (hB.mono (Nat.le_refl _)))
            have C4 := Lib.hid hC
            have HLO : Hid ((k - C) + C = k ∧ C ≤ P ∧ C ≤ k) := by have := hCP.out; show _ ∧ _; omega
            have K4 : Hid ((kvs ns1).Perm (dnE (fe lba ver) (k - C) C)) := by
              show List.Perm _ _
              rw [hk1]
              unfold filled
              rw [hCP.out]
            have HLEN : Hid (ns1.length = C) := by
              show _ = _
              have := K4.out.length_eq
              rw [List.length_map, dnE_len] at this
              exact this
            clear hk1 hC hB HF
            have HK := Lib.hid (keys_any C4.out.at_ (by have := HLEN.out; have := HLO.out; omega))
            rw [HLEN.out] at HK
            go_wp2_with fail
            refine HK.out.mono ?_
            rintro e w5 ⟨⟨Y, d2, rfl, hX⟩, hB⟩
            have L5 := Lib.hid (L4.out.trans (hB.mono C4.out.base))
            have C5 := Lib.hid (C4.out.below hB)
            clear hX hB HK
            go_wp2_with fail
            clear OR TR LR
            go_loopw [13, 66] (fun _ i wr => ∃ (t : Nat) (ns : List Nd) (h s : Nat), i = .int .i64 t ∧ t ≤ k ∧ Hid (Below base w wr ∧ CB base wr g r P ns h s ∧ (kvs ns).Perm (dnE (fe lba ver) (k - C) C) ∧ h = t - (k - C) ∧ s = min t (k - C))) (fun _ i _ => k - (intOf i).toNat)
            case atStart => exact ⟨0, ns1, 0, 0, rfl, by omega, L5.out, C5.out, K4.out, by omega, by omega⟩
            case round =>
              obtain ⟨t, ns2, h, s, rfl, ht, hH⟩ := hrel
              obtain ⟨wo, hwo⟩ : ∃ W, W = wr := ⟨_, rfl⟩
              subst hwo
              have LR := Lib.hid hH.out.1
              have CR2 := Lib.hid hH.out.2.1
              have KR := Lib.hid hH.out.2.2.1
              have HH := Lib.hid hH.out.2.2.2
              clear hH
              by_cases hlt : t < k
              · have hk0 : (0 : Int) ≤ (t : Int) := by omega
                have hkn : (t : Int) < (k : Int) := by omega
                have hwk : IntKind.i64.wrap (lba + (t : Int)) = lba + (t : Int) := by rw [IntKind.wrap_i64]; omega
                have hwk2 : IntKind.i64.wrap ((k : Int) - (P : Int)) = (k : Int) - (P : Int) := by rw [IntKind.wrap_i64]; omega
                have HT := fun (n : Int) w => Lib.hid (text_any n w)
                by_cases hin : t < k - C
                · have HG := Lib.hid (get_miss CR2.out (n := lba + (t : Int)) (v := ver) (by
                    intro y hy
                    have := who_kvs ns2 (lba + (t : Int))
                    rw [hy, perm_none KR.out hin] at this
                    cases this) (by omega) (by have := HH.out.2; omega))
                  have hge : decide ((k : Int) - (P : Int) ≤ (t : Int)) = false := decide_eq_false (by have := hCP.out; omega)
                  go_wp2_with fail
                  refine HG.out.mono ?_
                  rintro e w6 ⟨rfl, hC, hV⟩
                  have L6 := Lib.hid (LR.out.trans (CR2.out.down hV))
                  have C6 := Lib.hid hC
                  clear hC hV HG
                  go_upto_region 19 with fail
                  have L7 : Hid (Below base w w6.drew) := L6.out.drew
                  have C7 := Lib.hid C6.out.drew
                  refine wp_region_held_drew (S := fun _ => True) (by kernel_rfl) trivial (fun hHeld => ?_)
                  generalize w6.drew = w7 at *
                  (first | (refine Reg.take 0 (v := ?_) rfl (by kernel_rfl) (by kernel_rfl) (by kernel_rfl) (fun _ _ _ h => h) (Or.inl ⟨by rfl, ?_⟩) (by assumption) ?_; rotate_left; (focus ((intro W hSW); (try dsimp only at hSW); (try go_split_ands); go_simp; (try (with_reducible rfl)); done))) | (refine Reg.take 0 (v := undef) rfl (by kernel_rfl) (by kernel_rfl) (by kernel_rfl) (fun _ _ _ h => h) (Or.inr ⟨by rfl, rfl⟩) (by assumption) ?_))
                  (try simp only [Act.put, List.setIfInBounds_toArray, List.set_cons_zero, List.set_cons_succ])
                  (first | (refine Reg.take 1 (v := ?_) rfl (by kernel_rfl) (by kernel_rfl) (by kernel_rfl) (fun _ _ _ h => h) (Or.inl ⟨by rfl, ?_⟩) (by assumption) ?_; rotate_left; (focus ((intro W hSW); (try dsimp only at hSW); (try go_split_ands); go_simp; (try (with_reducible rfl)); done))) | (refine Reg.take 1 (v := undef) rfl (by kernel_rfl) (by kernel_rfl) (by kernel_rfl) (fun _ _ _ h => h) (Or.inr ⟨by rfl, rfl⟩) (by assumption) ?_))
                  (try simp only [Act.put, List.setIfInBounds_toArray, List.set_cons_zero, List.set_cons_succ])
                  (first | (refine Reg.take 2 (v := ?_) rfl (by kernel_rfl) (by kernel_rfl) (by kernel_rfl) (fun _ _ _ h => h) (Or.inl ⟨by rfl, ?_⟩) (by assumption) ?_; rotate_left; (focus ((intro W hSW); (try dsimp only at hSW); (try go_split_ands); go_simp; (try (with_reducible rfl)); done))) | (refine Reg.take 2 (v := undef) rfl (by kernel_rfl) (by kernel_rfl) (by kernel_rfl) (fun _ _ _ h => h) (Or.inr ⟨by rfl, rfl⟩) (by assumption) ?_))
                  (try simp only [Act.put, List.setIfInBounds_toArray, List.set_cons_zero, List.set_cons_succ])
                  (first | (refine Reg.take 3 (v := ?_) rfl (by kernel_rfl) (by kernel_rfl) (by kernel_rfl) (fun _ _ _ h => h) (Or.inl ⟨by rfl, ?_⟩) (by assumption) ?_; rotate_left; (focus ((intro W hSW); (try dsimp only at hSW); (try go_split_ands); go_simp; (try (with_reducible rfl)); done))) | (refine Reg.take 3 (v := undef) rfl (by kernel_rfl) (by kernel_rfl) (by kernel_rfl) (fun _ _ _ h => h) (Or.inr ⟨by rfl, rfl⟩) (by assumption) ?_))
                  (try simp only [Act.put, List.setIfInBounds_toArray, List.set_cons_zero, List.set_cons_succ])
                  (first | (refine Reg.take 4 (v := ?_) rfl (by kernel_rfl) (by kernel_rfl) (by kernel_rfl) (fun _ _ _ h => h) (Or.inl ⟨by rfl, ?_⟩) (by assumption) ?_; rotate_left; (focus ((intro W hSW); (try dsimp only at hSW); (try go_split_ands); go_simp; (try (with_reducible rfl)); done))) | (refine Reg.take 4 (v := undef) rfl (by kernel_rfl) (by kernel_rfl) (by kernel_rfl) (fun _ _ _ h => h) (Or.inr ⟨by rfl, rfl⟩) (by assumption) ?_))
                  (try simp only [Act.put, List.setIfInBounds_toArray, List.set_cons_zero, List.set_cons_succ])
                  (first | (refine Reg.take 5 (v := ?_) rfl (by kernel_rfl) (by kernel_rfl) (by kernel_rfl) (fun _ _ _ h => h) (Or.inl ⟨by rfl, ?_⟩) (by assumption) ?_; rotate_left; (focus ((intro W hSW); (try dsimp only at hSW); (try go_split_ands); go_simp; (try (with_reducible rfl)); done))) | (refine Reg.take 5 (v := undef) rfl (by kernel_rfl) (by kernel_rfl) (by kernel_rfl) (fun _ _ _ h => h) (Or.inr ⟨by rfl, rfl⟩) (by assumption) ?_))
                  (try simp only [Act.put, List.setIfInBounds_toArray, List.set_cons_zero, List.set_cons_succ])
                  (first | (refine Reg.take 6 (v := ?_) rfl (by kernel_rfl) (by kernel_rfl) (by kernel_rfl) (fun _ _ _ h => h) (Or.inl ⟨by rfl, ?_⟩) (by assumption) ?_; rotate_left; (focus ((intro W hSW); (try dsimp only at hSW); (try go_split_ands); go_simp; (try (with_reducible rfl)); done))) | (refine Reg.take 6 (v := undef) rfl (by kernel_rfl) (by kernel_rfl) (by kernel_rfl) (fun _ _ _ h => h) (Or.inr ⟨by rfl, rfl⟩) (by assumption) ?_))
                  (try simp only [Act.put, List.setIfInBounds_toArray, List.set_cons_zero, List.set_cons_succ])
                  (first | (refine Reg.take 7 (v := ?_) rfl (by kernel_rfl) (by kernel_rfl) (by kernel_rfl) (fun _ _ _ h => h) (Or.inl ⟨by rfl, ?_⟩) (by assumption) ?_; rotate_left; (focus ((intro W hSW); (try dsimp only at hSW); (try go_split_ands); go_simp; (try (with_reducible rfl)); done))) | (refine Reg.take 7 (v := undef) rfl (by kernel_rfl) (by kernel_rfl) (by kernel_rfl) (fun _ _ _ h => h) (Or.inr ⟨by rfl, rfl⟩) (by assumption) ?_))
                  (try simp only [Act.put, List.setIfInBounds_toArray, List.set_cons_zero, List.set_cons_succ])
                  (first | (refine Reg.take 8 (v := ?_) rfl (by kernel_rfl) (by kernel_rfl) (by kernel_rfl) (fun _ _ _ h => h) (Or.inl ⟨by rfl, ?_⟩) (by assumption) ?_; rotate_left; (focus ((intro W hSW); (try dsimp only at hSW); (try go_split_ands); go_simp; (try (with_reducible rfl)); done))) | (refine Reg.take 8 (v := undef) rfl (by kernel_rfl) (by kernel_rfl) (by kernel_rfl) (fun _ _ _ h => h) (Or.inr ⟨by rfl, rfl⟩) (by assumption) ?_))
                  (try simp only [Act.put, List.setIfInBounds_toArray, List.set_cons_zero, List.set_cons_succ])
                  (first | (refine Reg.take 9 (v := ?_) rfl (by kernel_rfl) (by kernel_rfl) (by kernel_rfl) (fun _ _ _ h => h) (Or.inl ⟨by rfl, ?_⟩) (by assumption) ?_; rotate_left; (focus ((intro W hSW); (try dsimp only at hSW); (try go_split_ands); go_simp; (try (with_reducible rfl)); done))) | (refine Reg.take 9 (v := undef) rfl (by kernel_rfl) (by kernel_rfl) (by kernel_rfl) (fun _ _ _ h => h) (Or.inr ⟨by rfl, rfl⟩) (by assumption) ?_))
                  (try simp only [Act.put, List.setIfInBounds_toArray, List.set_cons_zero, List.set_cons_succ])
                  (first | (refine Reg.take 10 (v := ?_) rfl (by kernel_rfl) (by kernel_rfl) (by kernel_rfl) (fun _ _ _ h => h) (Or.inl ⟨by rfl, ?_⟩) (by assumption) ?_; rotate_left; (focus ((intro W hSW); (try dsimp only at hSW); (try go_split_ands); go_simp; (try (with_reducible rfl)); done))) | (refine Reg.take 10 (v := undef) rfl (by kernel_rfl) (by kernel_rfl) (by kernel_rfl) (fun _ _ _ h => h) (Or.inr ⟨by rfl, rfl⟩) (by assumption) ?_))
                  (try simp only [Act.put, List.setIfInBounds_toArray, List.set_cons_zero, List.set_cons_succ])
                  (first | (refine Reg.take 11 (v := ?_) rfl (by kernel_rfl) (by kernel_rfl) (by kernel_rfl) (fun _ _ _ h => h) (Or.inl ⟨by rfl, ?_⟩) (by assumption) ?_; rotate_left; (focus ((intro W hSW); (try dsimp only at hSW); (try go_split_ands); go_simp; (try (with_reducible rfl)); done))) | (refine Reg.take 11 (v := undef) rfl (by kernel_rfl) (by kernel_rfl) (by kernel_rfl) (fun _ _ _ h => h) (Or.inr ⟨by rfl, rfl⟩) (by assumption) ?_))
                  (try simp only [Act.put, List.setIfInBounds_toArray, List.set_cons_zero, List.set_cons_succ])
                  (first | (refine Reg.take 12 (v := ?_) rfl (by kernel_rfl) (by kernel_rfl) (by kernel_rfl) (fun _ _ _ h => h) (Or.inl ⟨by rfl, ?_⟩) (by assumption) ?_; rotate_left; (focus ((intro W hSW); (try dsimp only at hSW); (try go_split_ands); go_simp; (try (with_reducible rfl)); done))) | (refine Reg.take 12 (v := undef) rfl (by kernel_rfl) (by kernel_rfl) (by kernel_rfl) (fun _ _ _ h => h) (Or.inr ⟨by rfl, rfl⟩) (by assumption) ?_))
                  (try simp only [Act.put, List.setIfInBounds_toArray, List.set_cons_zero, List.set_cons_succ])
                  (first | (refine Reg.take 13 (v := ?_) rfl (by kernel_rfl) (by kernel_rfl) (by kernel_rfl) (fun _ _ _ h => h) (Or.inl ⟨by rfl, ?_⟩) (by assumption) ?_; rotate_left; (focus ((intro W hSW); (try dsimp only at hSW); (try go_split_ands); go_simp; (try (with_reducible rfl)); done))) | (refine Reg.take 13 (v := undef) rfl (by kernel_rfl) (by kernel_rfl) (by kernel_rfl) (fun _ _ _ h => h) (Or.inr ⟨by rfl, rfl⟩) (by assumption) ?_))
                  (try simp only [Act.put, List.setIfInBounds_toArray, List.set_cons_zero, List.set_cons_succ])
                  (first | (refine Reg.take 14 (v := ?_) rfl (by kernel_rfl) (by kernel_rfl) (by kernel_rfl) (fun _ _ _ h => h) (Or.inl ⟨by rfl, ?_⟩) (by assumption) ?_; rotate_left; (focus ((intro W hSW); (try dsimp only at hSW); (try go_split_ands); go_simp; (try (with_reducible rfl)); done))) | (refine Reg.take 14 (v := undef) rfl (by kernel_rfl) (by kernel_rfl) (by kernel_rfl) (fun _ _ _ h => h) (Or.inr ⟨by rfl, rfl⟩) (by assumption) ?_))
                  (try simp only [Act.put, List.setIfInBounds_toArray, List.set_cons_zero, List.set_cons_succ])
                  (first | (refine Reg.take 15 (v := ?_) rfl (by kernel_rfl) (by kernel_rfl) (by kernel_rfl) (fun _ _ _ h => h) (Or.inl ⟨by rfl, ?_⟩) (by assumption) ?_; rotate_left; (focus ((intro W hSW); (try dsimp only at hSW); (try go_split_ands); go_simp; (try (with_reducible rfl)); done))) | (refine Reg.take 15 (v := undef) rfl (by kernel_rfl) (by kernel_rfl) (by kernel_rfl) (fun _ _ _ h => h) (Or.inr ⟨by rfl, rfl⟩) (by assumption) ?_))
                  (try simp only [Act.put, List.setIfInBounds_toArray, List.set_cons_zero, List.set_cons_succ])
                  (first | (refine Reg.take 16 (v := ?_) rfl (by kernel_rfl) (by kernel_rfl) (by kernel_rfl) (fun _ _ _ h => h) (Or.inl ⟨by rfl, ?_⟩) (by assumption) ?_; rotate_left; (focus ((intro W hSW); (try dsimp only at hSW); (try go_split_ands); go_simp; (try (with_reducible rfl)); done))) | (refine Reg.take 16 (v := undef) rfl (by kernel_rfl) (by kernel_rfl) (by kernel_rfl) (fun _ _ _ h => h) (Or.inr ⟨by rfl, rfl⟩) (by assumption) ?_))
                  (try simp only [Act.put, List.setIfInBounds_toArray, List.set_cons_zero, List.set_cons_succ])
                  (first | (refine Reg.take 17 (v := ?_) rfl (by kernel_rfl) (by kernel_rfl) (by kernel_rfl) (fun _ _ _ h => h) (Or.inl ⟨by rfl, ?_⟩) (by assumption) ?_; rotate_left; (focus ((intro W hSW); (try dsimp only at hSW); (try go_split_ands); go_simp; (try (with_reducible rfl)); done))) | (refine Reg.take 17 (v := undef) rfl (by kernel_rfl) (by kernel_rfl) (by kernel_rfl) (fun _ _ _ h => h) (Or.inr ⟨by rfl, rfl⟩) (by assumption) ?_))
                  (try simp only [Act.put, List.setIfInBounds_toArray, List.set_cons_zero, List.set_cons_succ])
                  refine wpAnyH_done (by kernel_rfl) ?_ _
                  clear hHeld
                  go_wp2_with fail
                  go_roundw
                  case rel => exact ⟨t + 1, ns2, h, s + 1, by go_num, by omega, L7.out, C7.out, KR.out, by have := HH.out; omega, by have := HH.out; omega⟩
                  case measure => simp [intOf]; omega
                · obtain ⟨y, hy, hy2⟩ := who_of (n := lba + (t : Int)) (x := fe lba ver t) (perm_who KR.out (by omega) (by have := HLO.out; omega))
                  have HG := Lib.hid (get_hit CR2.out hy (v := ver) (by rw [hy2]; rfl) (by omega) (by have := HH.out; omega))
                  rw [hy2] at HG
                  have hge : decide ((k : Int) - (P : Int) ≤ (t : Int)) = true := decide_eq_true (by have := hCP.out; omega)
                  clear hy hy2
                  go_wp2_with fail
                  refine HG.out.mono ?_
                  rintro e w6 ⟨⟨B, c, rfl, hO⟩, ⟨ns3, hk3, hC⟩, hV⟩
                  have L6 := Lib.hid (LR.out.trans (CR2.out.down hV))
                  have C6 := Lib.hid hC
                  have R6 := Lib.hid hO
                  have K6 : Hid ((kvs ns3).Perm (dnE (fe lba ver) (k - C) C)) := by
                    show List.Perm _ _
                    rw [hk3]
                    exact perm_next KR.out (by omega) (by have := HLO.out; omega)
                  clear hk3 hC hV HG hO
                  go_upto_region 19 with fail
                  have L9 : Hid (Below base w w6.drew) := L6.out.drew
                  have R9 := Lib.hid R6.out.drew
                  have C9 := Lib.hid C6.out.drew
                  refine wp_region_held_drew (S := fun W => Reads B c (tx t) W) (by kernel_rfl) (reads_own R9.out) (fun hHeld => ?_)
                  generalize w6.drew = w9 at *
                  simp only [Reads] at hHeld ⊢
                  (first | (refine Reg.take 0 (v := ?_) rfl (by kernel_rfl) (by kernel_rfl) (by kernel_rfl) (fun _ _ _ h => h) (Or.inl ⟨by rfl, ?_⟩) (by assumption) ?_; rotate_left; (focus ((intro W hSW); (try dsimp only at hSW); (try go_split_ands); go_simp; (try (with_reducible rfl)); done))) | (refine Reg.take 0 (v := undef) rfl (by kernel_rfl) (by kernel_rfl) (by kernel_rfl) (fun _ _ _ h => h) (Or.inr ⟨by rfl, rfl⟩) (by assumption) ?_))
                  (try simp only [Act.put, List.setIfInBounds_toArray, List.set_cons_zero, List.set_cons_succ])
                  (first | (refine Reg.take 1 (v := ?_) rfl (by kernel_rfl) (by kernel_rfl) (by kernel_rfl) (fun _ _ _ h => h) (Or.inl ⟨by rfl, ?_⟩) (by assumption) ?_; rotate_left; (focus ((intro W hSW); (try dsimp only at hSW); (try go_split_ands); go_simp; (try (with_reducible rfl)); done))) | (refine Reg.take 1 (v := undef) rfl (by kernel_rfl) (by kernel_rfl) (by kernel_rfl) (fun _ _ _ h => h) (Or.inr ⟨by rfl, rfl⟩) (by assumption) ?_))
                  (try simp only [Act.put, List.setIfInBounds_toArray, List.set_cons_zero, List.set_cons_succ])
                  (first | (refine Reg.take 2 (v := ?_) rfl (by kernel_rfl) (by kernel_rfl) (by kernel_rfl) (fun _ _ _ h => h) (Or.inl ⟨by rfl, ?_⟩) (by assumption) ?_; rotate_left; (focus ((intro W hSW); (try dsimp only at hSW); (try go_split_ands); go_simp; (try (with_reducible rfl)); done))) | (refine Reg.take 2 (v := undef) rfl (by kernel_rfl) (by kernel_rfl) (by kernel_rfl) (fun _ _ _ h => h) (Or.inr ⟨by rfl, rfl⟩) (by assumption) ?_))
                  (try simp only [Act.put, List.setIfInBounds_toArray, List.set_cons_zero, List.set_cons_succ])
                  (first | (refine Reg.take 3 (v := ?_) rfl (by kernel_rfl) (by kernel_rfl) (by kernel_rfl) (fun _ _ _ h => h) (Or.inl ⟨by rfl, ?_⟩) (by assumption) ?_; rotate_left; (focus ((intro W hSW); (try dsimp only at hSW); (try go_split_ands); go_simp; (try (with_reducible rfl)); done))) | (refine Reg.take 3 (v := undef) rfl (by kernel_rfl) (by kernel_rfl) (by kernel_rfl) (fun _ _ _ h => h) (Or.inr ⟨by rfl, rfl⟩) (by assumption) ?_))
                  (try simp only [Act.put, List.setIfInBounds_toArray, List.set_cons_zero, List.set_cons_succ])
                  (first | (refine Reg.take 4 (v := ?_) rfl (by kernel_rfl) (by kernel_rfl) (by kernel_rfl) (fun _ _ _ h => h) (Or.inl ⟨by rfl, ?_⟩) (by assumption) ?_; rotate_left; (focus ((intro W hSW); (try dsimp only at hSW); (try go_split_ands); go_simp; (try (with_reducible rfl)); done))) | (refine Reg.take 4 (v := undef) rfl (by kernel_rfl) (by kernel_rfl) (by kernel_rfl) (fun _ _ _ h => h) (Or.inr ⟨by rfl, rfl⟩) (by assumption) ?_))
                  (try simp only [Act.put, List.setIfInBounds_toArray, List.set_cons_zero, List.set_cons_succ])
                  (first | (refine Reg.take 5 (v := ?_) rfl (by kernel_rfl) (by kernel_rfl) (by kernel_rfl) (fun _ _ _ h => h) (Or.inl ⟨by rfl, ?_⟩) (by assumption) ?_; rotate_left; (focus ((intro W hSW); (try dsimp only at hSW); (try go_split_ands); go_simp; (try (with_reducible rfl)); done))) | (refine Reg.take 5 (v := undef) rfl (by kernel_rfl) (by kernel_rfl) (by kernel_rfl) (fun _ _ _ h => h) (Or.inr ⟨by rfl, rfl⟩) (by assumption) ?_))
                  (try simp only [Act.put, List.setIfInBounds_toArray, List.set_cons_zero, List.set_cons_succ])
                  (first | (refine Reg.take 6 (v := ?_) rfl (by kernel_rfl) (by kernel_rfl) (by kernel_rfl) (fun _ _ _ h => h) (Or.inl ⟨by rfl, ?_⟩) (by assumption) ?_; rotate_left; (focus ((intro W hSW); (try dsimp only at hSW); (try go_split_ands); go_simp; (try (with_reducible rfl)); done))) | (refine Reg.take 6 (v := undef) rfl (by kernel_rfl) (by kernel_rfl) (by kernel_rfl) (fun _ _ _ h => h) (Or.inr ⟨by rfl, rfl⟩) (by assumption) ?_))
                  (try simp only [Act.put, List.setIfInBounds_toArray, List.set_cons_zero, List.set_cons_succ])
                  (first | (refine Reg.take 7 (v := ?_) rfl (by kernel_rfl) (by kernel_rfl) (by kernel_rfl) (fun _ _ _ h => h) (Or.inl ⟨by rfl, ?_⟩) (by assumption) ?_; rotate_left; (focus ((intro W hSW); (try dsimp only at hSW); (try go_split_ands); go_simp; (try (with_reducible rfl)); done))) | (refine Reg.take 7 (v := undef) rfl (by kernel_rfl) (by kernel_rfl) (by kernel_rfl) (fun _ _ _ h => h) (Or.inr ⟨by rfl, rfl⟩) (by assumption) ?_))
                  (try simp only [Act.put, List.setIfInBounds_toArray, List.set_cons_zero, List.set_cons_succ])
                  (first | (refine Reg.take 8 (v := ?_) rfl (by kernel_rfl) (by kernel_rfl) (by kernel_rfl) (fun _ _ _ h => h) (Or.inl ⟨by rfl, ?_⟩) (by assumption) ?_; rotate_left; (focus ((intro W hSW); (try dsimp only at hSW); (try go_split_ands); go_simp; (try (with_reducible rfl)); done))) | (refine Reg.take 8 (v := undef) rfl (by kernel_rfl) (by kernel_rfl) (by kernel_rfl) (fun _ _ _ h => h) (Or.inr ⟨by rfl, rfl⟩) (by assumption) ?_))
                  (try simp only [Act.put, List.setIfInBounds_toArray, List.set_cons_zero, List.set_cons_succ])
                  (first | (refine Reg.take 9 (v := ?_) rfl (by kernel_rfl) (by kernel_rfl) (by kernel_rfl) (fun _ _ _ h => h) (Or.inl ⟨by rfl, ?_⟩) (by assumption) ?_; rotate_left; (focus ((intro W hSW); (try dsimp only at hSW); (try go_split_ands); go_simp; (try (with_reducible rfl)); done))) | (refine Reg.take 9 (v := undef) rfl (by kernel_rfl) (by kernel_rfl) (by kernel_rfl) (fun _ _ _ h => h) (Or.inr ⟨by rfl, rfl⟩) (by assumption) ?_))
                  (try simp only [Act.put, List.setIfInBounds_toArray, List.set_cons_zero, List.set_cons_succ])
                  (first | (refine Reg.take 10 (v := ?_) rfl (by kernel_rfl) (by kernel_rfl) (by kernel_rfl) (fun _ _ _ h => h) (Or.inl ⟨by rfl, ?_⟩) (by assumption) ?_; rotate_left; (focus ((intro W hSW); (try dsimp only at hSW); (try go_split_ands); go_simp; (try (with_reducible rfl)); done))) | (refine Reg.take 10 (v := undef) rfl (by kernel_rfl) (by kernel_rfl) (by kernel_rfl) (fun _ _ _ h => h) (Or.inr ⟨by rfl, rfl⟩) (by assumption) ?_))
                  (try simp only [Act.put, List.setIfInBounds_toArray, List.set_cons_zero, List.set_cons_succ])
                  (first | (refine Reg.take 11 (v := ?_) rfl (by kernel_rfl) (by kernel_rfl) (by kernel_rfl) (fun _ _ _ h => h) (Or.inl ⟨by rfl, ?_⟩) (by assumption) ?_; rotate_left; (focus ((intro W hSW); (try dsimp only at hSW); (try go_split_ands); go_simp; (try (with_reducible rfl)); done))) | (refine Reg.take 11 (v := undef) rfl (by kernel_rfl) (by kernel_rfl) (by kernel_rfl) (fun _ _ _ h => h) (Or.inr ⟨by rfl, rfl⟩) (by assumption) ?_))
                  (try simp only [Act.put, List.setIfInBounds_toArray, List.set_cons_zero, List.set_cons_succ])
                  (first | (refine Reg.take 12 (v := ?_) rfl (by kernel_rfl) (by kernel_rfl) (by kernel_rfl) (fun _ _ _ h => h) (Or.inl ⟨by rfl, ?_⟩) (by assumption) ?_; rotate_left; (focus ((intro W hSW); (try dsimp only at hSW); (try go_split_ands); go_simp; (try (with_reducible rfl)); done))) | (refine Reg.take 12 (v := undef) rfl (by kernel_rfl) (by kernel_rfl) (by kernel_rfl) (fun _ _ _ h => h) (Or.inr ⟨by rfl, rfl⟩) (by assumption) ?_))
                  (try simp only [Act.put, List.setIfInBounds_toArray, List.set_cons_zero, List.set_cons_succ])
                  refine Reg.step 13 rfl (by kernel_rfl) (by rfl) (fun K hK => ?_)
                  go_simp
                  refine (HT _ w9).out.mono ?_
                  rintro e wa ⟨A3, rfl, hT, hB⟩
                  have La := Lib.hid (L9.out.trans (hB.mono C9.out.base))
                  have Ca := Lib.hid (C9.out.below hB)
                  have Ra := Lib.hid (R9.out.below hB)
                  have Ta := Lib.hid (reads_of hT.row)
                  have RR := reads_own Ra.out
                  clear hT hB
                  refine hK.out _ _ RR (fun hHeldB => ?_)
                  clear hK K
                  (try simp only [Act.put, List.setIfInBounds_toArray, List.set_cons_zero, List.set_cons_succ])
                  refine Reg.step 14 rfl (by kernel_rfl) (by rfl) (fun K hK => ?_)
                  have hcv := Ta.out
                  unfold Reads at hcv
                  go_simp
                  refine hK.out _ _ RR (fun hHeldC => ?_)
                  clear hK K
                  (try simp only [Act.put, List.setIfInBounds_toArray, List.set_cons_zero, List.set_cons_succ])
                  (first | (refine Reg.take 15 (v := ?_) rfl (by kernel_rfl) (by kernel_rfl) (by kernel_rfl) (fun _ _ _ h => h) (Or.inl ⟨by rfl, ?_⟩) (by assumption) ?_; rotate_left; (focus ((intro W hSW); (try dsimp only at hSW); (try go_split_ands); go_simp; (try (with_reducible rfl)); done))) | (refine Reg.take 15 (v := undef) rfl (by kernel_rfl) (by kernel_rfl) (by kernel_rfl) (fun _ _ _ h => h) (Or.inr ⟨by rfl, rfl⟩) (by assumption) ?_))
                  (try simp only [Act.put, List.setIfInBounds_toArray, List.set_cons_zero, List.set_cons_succ])
                  (first | (refine Reg.take 16 (v := ?_) rfl (by kernel_rfl) (by kernel_rfl) (by kernel_rfl) (fun _ _ _ h => h) (Or.inl ⟨by rfl, ?_⟩) (by assumption) ?_; rotate_left; (focus ((intro W hSW); (try dsimp only at hSW); (try go_split_ands); go_simp; (try (with_reducible rfl)); done))) | (refine Reg.take 16 (v := undef) rfl (by kernel_rfl) (by kernel_rfl) (by kernel_rfl) (fun _ _ _ h => h) (Or.inr ⟨by rfl, rfl⟩) (by assumption) ?_))
                  (try simp only [Act.put, List.setIfInBounds_toArray, List.set_cons_zero, List.set_cons_succ])
                  (first | (refine Reg.take 17 (v := ?_) rfl (by kernel_rfl) (by kernel_rfl) (by kernel_rfl) (fun _ _ _ h => h) (Or.inl ⟨by rfl, ?_⟩) (by assumption) ?_; rotate_left; (focus ((intro W hSW); (try dsimp only at hSW); (try go_split_ands); go_simp; (try (with_reducible rfl)); done))) | (refine Reg.take 17 (v := undef) rfl (by kernel_rfl) (by kernel_rfl) (by kernel_rfl) (fun _ _ _ h => h) (Or.inr ⟨by rfl, rfl⟩) (by assumption) ?_))
                  (try simp only [Act.put, List.setIfInBounds_toArray, List.set_cons_zero, List.set_cons_succ])
                  refine wpAnyH_done (by kernel_rfl) ?_ _
                  clear hHeld hHeldB hHeldC hcv RR
                  go_wp2_with fail
                  go_roundw
                  case rel => exact ⟨t + 1, ns3, h + 1, s, by go_num, by omega, La.out, Ca.out, K6.out, by have := HH.out; omega, by have := HH.out; omega⟩
                  case measure => simp [intOf]; omega
              · obtain rfl : t = k := by omega
                have hh : h = C := by have := HH.out; have := HLO.out; omega
                obtain ⟨s0, hs0⟩ : ∃ s0 : Int, (t : Int) - (C : Int) = s0 := ⟨_, rfl⟩
                have hs : (s : Int) = s0 := by have := HH.out; have := HLO.out; omega
                have hw2 : IntKind.i64.wrap s0 = s0 := by rw [IntKind.wrap_i64]; omega
                have HLEN2 : Hid (ns2.length = C) := by
                  show _ = _
                  have := KR.out.length_eq
                  rw [List.length_map, dnE_len] at this
                  exact this
                have HHI := Lib.hid (hits_any CR2.out.at_)
                have HDA : Hid (dropN ns2 lba (t : Int) = []) := drop_all fun x hx => by
                  obtain ⟨i, h1, h2, rfl⟩ := dnE_mem.1 (KR.out.mem_iff.1 hx)
                  show lba ≤ lba + (i : Int) ∧ lba + (i : Int) - lba < (t : Int)
                  have := HLO.out
                  omega
                have HD := fun W (hC : CB base W g r P ns2 h s) => Lib.hid (drop_cb hC (by have := HLEN2.out; omega) (fun y hy => by
                  obtain ⟨i, h1, h2, h3⟩ := dnE_mem.1 (KR.out.mem_iff.1 (List.mem_map.2 ⟨y, hy, rfl⟩))
                  rw [h3]
                  show 0 ≤ lba + (i : Int) ∧ lba + (i : Int) ≤ _
                  omega) hl0 (by omega) (n := (t : Int)) (by omega))
                rw [HDA.out, HLEN2.out] at HD
                rw [hs, hh] at HHI
                go_wp2_with fail
                refine HHI.out.mono ?_
                rintro e w6 ⟨rfl, hB⟩
                have L6 := Lib.hid (LR.out.trans (hB.mono CR2.out.base))
                have C6 := Lib.hid (CR2.out.below hB)
                clear hB HHI hs hh
                have HD6 := HD w6 C6.out
                simp only [List.length_nil, Int.natCast_zero, Int.sub_zero] at HD6
                clear HD
                go_wp2_with fail
                refine HD6.out.mono ?_
                rintro e w7 ⟨rfl, hC, hV⟩
                have L7 := Lib.hid (L6.out.trans (C6.out.down hV))
                clear hC hV HD6
                go_wp2_with fail
                go_ret
                exact ⟨rfl, L7.out⟩
      · go_enter Try.func5, Try.ntmps5
        go_wp2_with fail
        refine HLV.out.mono ?_
        rintro e w1 ⟨rfl, hb⟩
        have L1 : Hid (Below base w w1) := by show Below _ _ _; rw [HBS.out]; exact hb
        clear hb HLV
        go_wp2_with fail
        go_ret
        exact ⟨rfl, L1.out⟩
    · go_enter Try.func5, Try.ntmps5
      go_wp2_with fail
      refine HLV.out.mono ?_
      rintro e w1 ⟨rfl, hb⟩
      have L1 : Hid (Below base w w1) := by show Below _ _ _; rw [HBS.out]; exact hb
      clear hb HLV
      go_wp2_with fail
      go_ret
      exact ⟨rfl, L1.out⟩
  · go_enter Try.func5, Try.ntmps5
    go_wp2_with fail
    refine HLV.out.mono ?_
    rintro e w1 ⟨rfl, hb⟩
    have L1 : Hid (Below base w w1) := by show Below _ _ _; rw [HBS.out]; exact hb
    clear hb HLV
    go_wp2_with fail
    go_ret
    exact ⟨rfl, L1.out⟩
end Cac
end Go.Proofs.Ytfngebikihdogaa
