/-
  THE STATEMENT CacheRoom: its walk.
-/
import Derived.Test.YtfngebikihdogaaCacRoomP
import Derived.Test.YtfngebikihdogaaCut
namespace Go.Proofs.Ytfngebikihdogaa
open Go.RowKit Mem Box GM
namespace Cac
theorem who_ent {ns : List Nd} {L : List Kv} (hk : kvs ns = L) {n : Int} {x : Kv} (h : whoK L n = some x) : ∃ y, who ns n = some y ∧ y.2 = x := who_of (by rw [hk]; exact h)
set_option maxRecDepth 100000 in
set_option maxHeartbeats 12800000 in
theorem room_walk (many ask : Int) (w : World) : Calls Try.prog 4 #[.int .i64 many, .int .i64 ask] w fun e w' => e = .returned (.bool true) ∧ Below w.heap.size w w' := by
  obtain ⟨r1, j1, k1, k2, k3, k4, k5, k6⟩ : ∃ (r : Int) (j : Nat), Int.tmod many 50 = r ∧ -50 < r ∧ r < 50 ∧ Int.tmod (r + 50) 50 = j ∧ (r + 50) % 50 = j ∧ j < 50 := Cut.cut_at many 50 (by omega)
  obtain ⟨M, hM⟩ : ∃ M : Nat, (2 : Int) + (j1 : Int) = (M : Int) := ⟨2 + j1, by omega⟩
  have hM2 : 2 ≤ M := by omega
  have hM51 : M ≤ 51 := by omega
  obtain ⟨r2, a, q1, q2, q3, q4, q5, q6⟩ := Cut.cut_at ask M (by omega)
  have HN := fun w0 : World => Lib.hid (new_cb (base := w.heap.size) (M : Int) w0)
  have hM0 : ¬ M = 0 := by omega
  obtain ⟨base, hbase⟩ : ∃ b, b = w.heap.size := ⟨_, rfl⟩
  rw [← hbase] at HN ⊢
  have HBS := Lib.hid hbase
  have HLV := Lib.hid (live_any w)
  clear hbase
  go_enter Try.func4, Try.ntmps4
  go_wp2_with fail
  refine HLV.out.mono ?_
  rintro e w1 ⟨rfl, hb⟩
  have L1 : Hid (Below base w w1) := by show Below _ _ _; rw [HBS.out]; exact hb
  clear hb HLV
  go_wp2_with fail
  refine ((HN w1).out (by have := L1.out.size; have := HBS.out; omega)).mono ?_
  rintro e w2 ⟨rfl, hC, hB⟩
  rw [show max (M : Int) 0 = (M : Int) by omega] at hC
  have L2 := Lib.hid (L1.out.trans (hB.mono (show base ≤ w1.heap.size by have := L1.out.size; have := HBS.out; omega)))
  obtain ⟨g, hg⟩ : ∃ g, g = w1.heap.size + 1 := ⟨_, rfl⟩
  obtain ⟨r, hr⟩ : ∃ r, r = w1.heap.size := ⟨_, rfl⟩
  rw [← hg, ← hr] at hC
  rw [← hg]
  have C2 := Lib.hid hC
  clear hC hB HN hg hr k1 k2 k3 k4 k5 k6 hM q1 q2 q3 q4 q5
  have HT := fun (n : Int) w => Lib.hid (text_any n w)
  go_wp2_with fail
  go_loopw [7, 34] (fun _ i wr => ∃ (k : Nat) (ns : List Nd), i = .int .i64 k ∧ k ≤ M ∧ Hid (Below base w wr ∧ CB base wr g r M ns 0 0 ∧ kvs ns = dn 0 k)) (fun _ i _ => M - (intOf i).toNat)
  case atStart => exact ⟨0, [], rfl, by omega, L2.out, C2.out, rfl⟩
  case round =>
    obtain ⟨k, ns, rfl, hk, hH⟩ := hrel
    by_cases hlt : k < M
    · have hk0 : (0 : Int) ≤ (k : Int) := by omega
      have hkn : (k : Int) < (M : Int) := by omega
      have LR := Lib.hid hH.out.1
      have CR := Lib.hid hH.out.2.1
      have KR := Lib.hid hH.out.2.2
      have RM := Lib.hid (room1 (M := M) (k := k) (by omega))
      clear hH
      go_wp2_with fail
      refine (HT _ wr).out.mono ?_
      rintro e w4 ⟨A, rfl, hT, hB⟩
      have C4 := Lib.hid (CR.out.below hB)
      have L4 := Lib.hid (LR.out.trans (hB.mono CR.out.base))
      have HP := Lib.hid (put_ok C4.out (n := (k : Int)) (v := (k : Int) + 1) hk0 (by omega) (by
        intro y hy
        have := who_kvs ns k
        rw [hy, KR.out, whoK_none (fun x hx => by have := dn_mem hx; omega)] at this
        cases this) hT)
      rw [KR.out] at HP
      clear hT hB
      go_wp2_with fail
      refine HP.out.mono ?_
      rintro e w5 ⟨rfl, ns', hk', hC, hV⟩
      have L5 := Lib.hid (L4.out.trans (C4.out.down hV))
      have C5 := Lib.hid hC
      have K5 : Hid (kvs ns' = dn 0 (k + 1)) := hk'.trans RM.out
      clear hk' hC hV HP
      go_wp2_with fail
      go_roundw
      case rel => exact ⟨k + 1, ns', by go_num, by omega, L5.out, C5.out, K5.out⟩
      case measure => simp [intOf]; omega
    · obtain rfl : k = M := by omega
      have LR := Lib.hid hH.out.1
      have CR := Lib.hid hH.out.2.1
      have KR := Lib.hid hH.out.2.2
      clear hH
      go_wp2_with fail
      go_loopw [8, 47] (fun _ i wr => ∃ (t : Nat) (ns : List Nd), i = .int .i64 t ∧ t ≤ k ∧ Hid (Below base w wr ∧ CB base wr g r k ns t 0 ∧ kvs ns = dn 0 t ++ dn t (k - t))) (fun _ i _ => k - (intOf i).toNat)
      case atStart => exact ⟨0, ns, rfl, by omega, LR.out, CR.out, by rw [KR.out]; rfl⟩
      case round =>
        obtain ⟨t, ns1, rfl, ht, hH⟩ := hrel
        obtain ⟨wo, hwo⟩ : ∃ W, W = wr := ⟨_, rfl⟩
        subst hwo
        have LR := Lib.hid hH.out.1
        have CR := Lib.hid hH.out.2.1
        have KR := Lib.hid hH.out.2.2
        clear hH
        by_cases hlt : t < k
        · have hk0 : (0 : Int) ≤ (t : Int) := by omega
          have hkn : (t : Int) < (k : Int) := by omega
          obtain ⟨q, hq⟩ : ∃ q, k - t = q + 1 := ⟨k - t - 1, by omega⟩
          have hq2 : k - (t + 1) = q := by omega
          rw [hq] at KR
          obtain ⟨y, hy, hy2⟩ := who_ent KR.out (hit2 t q)
          have HG := Lib.hid (get_hit CR.out hy (v := (t : Int) + 1) (by rw [hy2]; rfl) hk0 (by omega))
          rw [hy2, KR.out, room2] at HG
          clear hy hy2
          go_wp2_with fail
          refine HG.out.mono ?_
          rintro e w4 ⟨⟨B, c, rfl, hO⟩, ⟨ns2, hk2, hC⟩, hV⟩
          have L4 := Lib.hid (LR.out.trans (CR.out.down hV))
          have R4 := Lib.hid hO
          have C4 := Lib.hid hC
          have K4 := Lib.hid hk2
          clear hk2 hC hV HG hO
          go_upto_region 15 with fail
          have L9 : Hid (Below base w w4.drew) := L4.out.drew
          have R9 := Lib.hid R4.out.drew
          have C9 := Lib.hid C4.out.drew
          refine wp_region_held_drew (S := fun W => Reads B c (tx t) W) (by kernel_rfl) (reads_own R9.out) (fun hHeld => ?_)
          generalize w4.drew = w9 at *
          simp only [Reads] at hHeld ⊢
          (first | (refine Reg.take 0 (v := ?_) rfl (by kernel_rfl) (by kernel_rfl) (by kernel_rfl) (fun _ _ _ h => h) (Or.inl ⟨by rfl, ?_⟩) (by assumption) ?_; rotate_left; (focus ((intro W hSW); (try dsimp only at hSW); (try go_split_ands); go_simp; (try (with_reducible rfl)); done))) | (refine Reg.take 0 (v := undef) rfl (by kernel_rfl) (by kernel_rfl) (by kernel_rfl) (fun _ _ _ h => h) (Or.inr ⟨by rfl, rfl⟩) (by assumption) ?_))
          (try simp only [Act.put, List.setIfInBounds_toArray, List.set_cons_zero, List.set_cons_succ])
          (first | (refine Reg.take 1 (v := ?_) rfl (by kernel_rfl) (by kernel_rfl) (by kernel_rfl) (fun _ _ _ h => h) (Or.inl ⟨by rfl, ?_⟩) (by assumption) ?_; rotate_left; (focus ((intro W hSW); (try dsimp only at hSW); (try go_split_ands); go_simp; (try (with_reducible rfl)); done))) | (refine Reg.take 1 (v := undef) rfl (by kernel_rfl) (by kernel_rfl) (by kernel_rfl) (fun _ _ _ h => h) (Or.inr ⟨by rfl, rfl⟩) (by assumption) ?_))
          (try simp only [Act.put, List.setIfInBounds_toArray, List.set_cons_zero, List.set_cons_succ])
          (first | (refine Reg.take 2 (v := ?_) rfl (by kernel_rfl) (by kernel_rfl) (by kernel_rfl) (fun _ _ _ h => h) (Or.inl ⟨by rfl, ?_⟩) (by assumption) ?_; rotate_left; (focus ((intro W hSW); (try dsimp only at hSW); (try go_split_ands); go_simp; (try (with_reducible rfl)); done))) | (refine Reg.take 2 (v := undef) rfl (by kernel_rfl) (by kernel_rfl) (by kernel_rfl) (fun _ _ _ h => h) (Or.inr ⟨by rfl, rfl⟩) (by assumption) ?_))
          (try simp only [Act.put, List.setIfInBounds_toArray, List.set_cons_zero, List.set_cons_succ])
          (first | (refine Reg.take 3 (v := ?_) rfl (by kernel_rfl) (by kernel_rfl) (by kernel_rfl) (fun _ _ _ h => h) (Or.inl ⟨by rfl, ?_⟩) (by assumption) ?_; rotate_left; (focus ((intro W hSW); (try dsimp only at hSW); (try go_split_ands); go_simp; (try (with_reducible rfl)); done))) | (refine Reg.take 3 (v := undef) rfl (by kernel_rfl) (by kernel_rfl) (by kernel_rfl) (fun _ _ _ h => h) (Or.inr ⟨by rfl, rfl⟩) (by assumption) ?_))
          (try simp only [Act.put, List.setIfInBounds_toArray, List.set_cons_zero, List.set_cons_succ])
          (first | (refine Reg.take 4 (v := ?_) rfl (by kernel_rfl) (by kernel_rfl) (by kernel_rfl) (fun _ _ _ h => h) (Or.inl ⟨by rfl, ?_⟩) (by assumption) ?_; rotate_left; (focus ((intro W hSW); (try dsimp only at hSW); (try go_split_ands); go_simp; (try (with_reducible rfl)); done))) | (refine Reg.take 4 (v := undef) rfl (by kernel_rfl) (by kernel_rfl) (by kernel_rfl) (fun _ _ _ h => h) (Or.inr ⟨by rfl, rfl⟩) (by assumption) ?_))
          (try simp only [Act.put, List.setIfInBounds_toArray, List.set_cons_zero, List.set_cons_succ])
          (first | (refine Reg.take 5 (v := ?_) rfl (by kernel_rfl) (by kernel_rfl) (by kernel_rfl) (fun _ _ _ h => h) (Or.inl ⟨by rfl, ?_⟩) (by assumption) ?_; rotate_left; (focus ((intro W hSW); (try dsimp only at hSW); (try go_split_ands); go_simp; (try (with_reducible rfl)); done))) | (refine Reg.take 5 (v := undef) rfl (by kernel_rfl) (by kernel_rfl) (by kernel_rfl) (fun _ _ _ h => h) (Or.inr ⟨by rfl, rfl⟩) (by assumption) ?_))
          (try simp only [Act.put, List.setIfInBounds_toArray, List.set_cons_zero, List.set_cons_succ])
          refine Reg.step 6 rfl (by kernel_rfl) (by rfl) (fun K hK => ?_)
          go_simp
          refine (HT _ w9).out.mono ?_
          rintro e wa ⟨A3, rfl, hT, hB⟩
          have La := Lib.hid (L9.out.trans (hB.mono C9.out.base))
          have Ca := Lib.hid (C9.out.below hB)
          have Ra := Lib.hid (R9.out.below hB)
          have Ta := Lib.hid (reads_of hT.row)
          have RR := reads_own Ra.out
          clear hT hB
          refine hK.out _ _ RR (fun hHeldB => ?_)
          clear hK K
          (try simp only [Act.put, List.setIfInBounds_toArray, List.set_cons_zero, List.set_cons_succ])
          refine Reg.step 7 rfl (by kernel_rfl) (by rfl) (fun K hK => ?_)
          have hcv := Ta.out
          unfold Reads at hcv
          go_simp
          refine hK.out _ _ RR (fun hHeldC => ?_)
          clear hK K
          (try simp only [Act.put, List.setIfInBounds_toArray, List.set_cons_zero, List.set_cons_succ])
          (first | (refine Reg.take 8 (v := ?_) rfl (by kernel_rfl) (by kernel_rfl) (by kernel_rfl) (fun _ _ _ h => h) (Or.inl ⟨by rfl, ?_⟩) (by assumption) ?_; rotate_left; (focus ((intro W hSW); (try dsimp only at hSW); (try go_split_ands); go_simp; (try (with_reducible rfl)); done))) | (refine Reg.take 8 (v := undef) rfl (by kernel_rfl) (by kernel_rfl) (by kernel_rfl) (fun _ _ _ h => h) (Or.inr ⟨by rfl, rfl⟩) (by assumption) ?_))
          (try simp only [Act.put, List.setIfInBounds_toArray, List.set_cons_zero, List.set_cons_succ])
          (first | (refine Reg.take 9 (v := ?_) rfl (by kernel_rfl) (by kernel_rfl) (by kernel_rfl) (fun _ _ _ h => h) (Or.inl ⟨by rfl, ?_⟩) (by assumption) ?_; rotate_left; (focus ((intro W hSW); (try dsimp only at hSW); (try go_split_ands); go_simp; (try (with_reducible rfl)); done))) | (refine Reg.take 9 (v := undef) rfl (by kernel_rfl) (by kernel_rfl) (by kernel_rfl) (fun _ _ _ h => h) (Or.inr ⟨by rfl, rfl⟩) (by assumption) ?_))
          (try simp only [Act.put, List.setIfInBounds_toArray, List.set_cons_zero, List.set_cons_succ])
          refine wpAnyH_done (by kernel_rfl) ?_ _
          clear hHeld hHeldB hHeldC hcv RR
          go_wp2_with fail
          go_roundw
          case rel => exact ⟨t + 1, ns2, by go_num, by omega, La.out, Ca.out, by rw [hq2]; exact K4.out⟩
          case measure => simp [intOf]; omega
        · -- THE END
          obtain rfl : t = k := by omega
          have K0 : Hid (kvs ns1 = dn 0 t) := by show _ = _; rw [KR.out, Nat.sub_self]; exact List.append_nil _
          have hak : a < t := by omega
          have ha0 : (0 : Int) ≤ (a : Int) := by omega
          obtain ⟨y, hy, hy2⟩ := who_ent K0.out (hit3 hak)
          have HG := Lib.hid (get_hit CR.out hy (v := (a : Int) + 1) (by rw [hy2]; rfl) (by omega) (by omega))
          rw [hy2, K0.out] at HG
          obtain ⟨rest, hr3, hr4, hr5⟩ := room3 hak hM2
          have HR3 := Lib.hid hr3
          have HR4 := Lib.hid hr4
          have HR5 := Lib.hid hr5
          clear hy hy2 hr3 hr4 hr5
          go_wp2_with fail
          refine HG.out.mono ?_
          rintro e w4 ⟨⟨B0, c0, rfl, -⟩, ⟨ns2, hk2, hC⟩, hV⟩
          have L4 := Lib.hid (LR.out.trans (CR.out.down hV))
          have C4 := Lib.hid hC
          have K4 := Lib.hid hk2
          clear hk2 hC hV HG
          rcases e0 : ((a : Int) == 0)
          · have hf : firstOf a = 0 := by unfold firstOf; rw [if_neg (by simpa using e0)]
            rw [hf] at HR5
            go_wp2_with fail
            refine (HT _ w4).out.mono ?_
            rintro e w5 ⟨A5, rfl, hT, hB⟩
            have C5 := Lib.hid (C4.out.below hB)
            have L5 := Lib.hid (L4.out.trans (hB.mono C4.out.base))
            have HP := Lib.hid (put_ok C5.out (n := (t : Int)) (v := 1) (by omega) (by omega) (by
              intro y hy
              have := who_kvs ns2 t
              rw [hy, K4.out, whoK_none (fun x hx => by
                rcases List.mem_cons.1 hx with rfl | hx
                · show (a : Int) ≠ t; omega
                · have := dn_mem (List.mem_filter.1 hx).1; omega)] at this
              cases this) hT)
            rw [K4.out, HR3.out] at HP
            clear hT hB
            go_wp2_with fail
            refine HP.out.mono ?_
            rintro e w6 ⟨rfl, ns3, hk3, hC, hV⟩
            have L6 := Lib.hid (L5.out.trans (C5.out.down hV))
            have C6 := Lib.hid hC
            have K6 := Lib.hid hk3
            clear hk3 hC hV HP
            have HG := Lib.hid (get_miss C6.out (n := 0) (v := 1) (by
              intro y hy
              have := who_kvs ns3 0
              rw [hy, K6.out, whoK_none (fun x hx => by
                rcases List.mem_cons.1 hx with rfl | hx
                · show (t : Int) ≠ _; omega
                · rcases List.mem_cons.1 hx with rfl | hx
                  · show (a : Int) ≠ _; simp only [beq_iff_eq, beq_eq_false_iff_ne, ne_eq] at e0; omega
                  · have := (HR5.out x hx).2.1; simpa using this)] at this
              cases this) (by omega) (by omega))
            go_wp2_with fail
            refine HG.out.mono ?_
            rintro e w7 ⟨rfl, hC, hV⟩
            have L7 := Lib.hid (L6.out.trans (C6.out.down hV))
            have C7 := Lib.hid hC
            clear hC hV HG
            obtain ⟨y, hy, hy2⟩ := who_ent (n := (a : Int)) (x := ent a) K6.out (by
              rw [whoK_cons, if_neg (by show ¬ (t : Int) = a; omega), whoK_cons, if_pos (show (ent a).lba = (a : Int) from rfl)])
            have HG := Lib.hid (get_hit C7.out hy (v := (a : Int) + 1) (by rw [hy2]; rfl) (by omega) (by omega))
            rw [hy2, K6.out, show (t : Int) + 1 + 1 = (t : Int) + 2 by omega] at HG
            clear hy hy2
            go_wp2_with fail
            refine HG.out.mono ?_
            rintro e w8 ⟨⟨B, c, rfl, hO⟩, ⟨ns4, hk4, hC⟩, hV⟩
            have L8 := Lib.hid (L7.out.trans (C7.out.down hV))
            have C8 := Lib.hid hC
            have HLEN : Hid (ns4.length = t) := by
              show _ = _
              have := congrArg List.length hk4
              rw [List.length_map] at this
              rw [this, outK_cons_ne _ _ (by show (t : Int) ≠ a; omega), outK_cons_eq _ _ (show (ent a).lba = (a : Int) from rfl), outK_none (fun x hx => (HR5.out x hx).1)]
              simp only [List.length_cons]
              have := HR4.out
              omega
            clear hk4 hC hV HG hO
            have HH := Lib.hid (hits_any C8.out.at_)
            rw [show (0 : Int) + 1 = 1 from rfl] at HH
            go_wp2_with fail
            refine HH.out.mono ?_
            rintro e w9 ⟨rfl, hB⟩
            have L9 := Lib.hid (L8.out.trans (hB.mono C8.out.base))
            have C9 := Lib.hid (C8.out.below hB)
            clear hB HH
            have HK := Lib.hid (keys_any C9.out.at_ (by have := HLEN.out; omega))
            rw [HLEN.out] at HK
            go_wp2_with fail
            refine HK.out.mono ?_
            rintro e wz ⟨⟨X, d, rfl, hX⟩, hB⟩
            have Lz := Lib.hid (L9.out.trans (hB.mono C9.out.base))
            clear hX hB HK
            go_wp2_with fail
            go_ret
            exact ⟨rfl, Lz.out⟩
          · have hf : firstOf a = 1 := by unfold firstOf; rw [if_pos (by simpa using e0)]
            rw [hf] at HR5
            go_wp2_with fail
            refine (HT _ w4).out.mono ?_
            rintro e w5 ⟨A5, rfl, hT, hB⟩
            have C5 := Lib.hid (C4.out.below hB)
            have L5 := Lib.hid (L4.out.trans (hB.mono C4.out.base))
            have HP := Lib.hid (put_ok C5.out (n := (t : Int)) (v := 1) (by omega) (by omega) (by
              intro y hy
              have := who_kvs ns2 t
              rw [hy, K4.out, whoK_none (fun x hx => by
                rcases List.mem_cons.1 hx with rfl | hx
                · show (a : Int) ≠ t; omega
                · have := dn_mem (List.mem_filter.1 hx).1; omega)] at this
              cases this) hT)
            rw [K4.out, HR3.out] at HP
            clear hT hB
            go_wp2_with fail
            refine HP.out.mono ?_
            rintro e w6 ⟨rfl, ns3, hk3, hC, hV⟩
            have L6 := Lib.hid (L5.out.trans (C5.out.down hV))
            have C6 := Lib.hid hC
            have K6 := Lib.hid hk3
            clear hk3 hC hV HP
            have HG := Lib.hid (get_miss C6.out (n := 1) (v := 2) (by
              intro y hy
              have := who_kvs ns3 1
              rw [hy, K6.out, whoK_none (fun x hx => by
                rcases List.mem_cons.1 hx with rfl | hx
                · show (t : Int) ≠ _; omega
                · rcases List.mem_cons.1 hx with rfl | hx
                  · show (a : Int) ≠ _; simp only [beq_iff_eq, beq_eq_false_iff_ne, ne_eq] at e0; omega
                  · have := (HR5.out x hx).2.1; simpa using this)] at this
              cases this) (by omega) (by omega))
            go_wp2_with fail
            refine HG.out.mono ?_
            rintro e w7 ⟨rfl, hC, hV⟩
            have L7 := Lib.hid (L6.out.trans (C6.out.down hV))
            have C7 := Lib.hid hC
            clear hC hV HG
            obtain ⟨y, hy, hy2⟩ := who_ent (n := (a : Int)) (x := ent a) K6.out (by
              rw [whoK_cons, if_neg (by show ¬ (t : Int) = a; omega), whoK_cons, if_pos (show (ent a).lba = (a : Int) from rfl)])
            have HG := Lib.hid (get_hit C7.out hy (v := (a : Int) + 1) (by rw [hy2]; rfl) (by omega) (by omega))
            rw [hy2, K6.out, show (t : Int) + 1 + 1 = (t : Int) + 2 by omega] at HG
            clear hy hy2
            go_wp2_with fail
            refine HG.out.mono ?_
            rintro e w8 ⟨⟨B, c, rfl, hO⟩, ⟨ns4, hk4, hC⟩, hV⟩
            have L8 := Lib.hid (L7.out.trans (C7.out.down hV))
            have C8 := Lib.hid hC
            have HLEN : Hid (ns4.length = t) := by
              show _ = _
              have := congrArg List.length hk4
              rw [List.length_map] at this
              rw [this, outK_cons_ne _ _ (by show (t : Int) ≠ a; omega), outK_cons_eq _ _ (show (ent a).lba = (a : Int) from rfl), outK_none (fun x hx => (HR5.out x hx).1)]
              simp only [List.length_cons]
              have := HR4.out
              omega
            clear hk4 hC hV HG hO
            have HH := Lib.hid (hits_any C8.out.at_)
            rw [show (0 : Int) + 1 = 1 from rfl] at HH
            go_wp2_with fail
            refine HH.out.mono ?_
            rintro e w9 ⟨rfl, hB⟩
            have L9 := Lib.hid (L8.out.trans (hB.mono C8.out.base))
            have C9 := Lib.hid (C8.out.below hB)
            clear hB HH
            have HK := Lib.hid (keys_any C9.out.at_ (by have := HLEN.out; omega))
            rw [HLEN.out] at HK
            go_wp2_with fail
            refine HK.out.mono ?_
            rintro e wz ⟨⟨X, d, rfl, hX⟩, hB⟩
            have Lz := Lib.hid (L9.out.trans (hB.mono C9.out.base))
            clear hX hB HK
            go_wp2_with fail
            go_ret
            exact ⟨rfl, Lz.out⟩
end Cac
end Go.Proofs.Ytfngebikihdogaa
