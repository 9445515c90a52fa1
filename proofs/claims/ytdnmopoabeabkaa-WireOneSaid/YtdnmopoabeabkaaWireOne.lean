/-
  WireOne: FOR EVERY BYTES THE LAW RETURNS TRUE (what is read, a number, a vector, a message, is written as these very bytes) AND CHANGES NOTHING THAT WAS THERE.
  No condition beside the row's own (what can be read as data, within the model's reach).
-/
import Derived.Test.YtdnmopoabeabkaaWireBackLaw
namespace Go.Proofs.Ytdnmopoabeabkaa
open Go.ChangeShapes Go.WideShapes Go.ChangeAt Go.RowKit Mem Args
namespace Wire

set_option maxRecDepth 100000 in
set_option maxHeartbeats 6400000 in
theorem wireOne_walk (A : Option Addr) (len cap : Nat) (l : List B8) (w : World) (h : Row cb w A len cap l) :
    Calls Try.prog 4 #[.slice A len cap] w fun e w' => e = .returned (.bool true) ∧ Below w.heap.size w w' := by
  have HR := Lib.hid h
  have hbig := h.big
  clear h
  by_cases hlen : 200000 < len
  · go_enter Try.func4, Try.ntmps4
    go_wp2_with (go_at_call 8; refine (live_any _).mono ?_; rintro e w1 ⟨rfl, hb⟩; have B1 := Lib.hid hb; clear hb)
    go_ret
    exact ⟨rfl, B1.out⟩
  · rcases ht : take1 l with ⟨n, k, e⟩
    have HT := Lib.hid ht
    rcases hv : vec1 l with ⟨v, kv, ev⟩
    have HV := Lib.hid hv
    clear ht hv
    go_enter Try.func4, Try.ntmps4
    go_wp2_with (first
      | (go_at_call 8; refine (live_any _).mono ?_; rintro en w1 ⟨rfl, hb⟩; have B1 := Lib.hid hb; clear hb)
      | (go_at_call 13; refine (take_at (HR.out.below B1.out) HT.out).mono ?_; rintro en w2 ⟨rfl, hb⟩; have B2 := Lib.hid (B1.out.trans (hb.mono B1.out.size)); clear hb))
    go_upto_region 5 with fail
    go_cut [45] (fun s wx => s = .bool false ∧ Hid (Below w.heap.size w wx))
    case first =>
      clear B1
      by_cases he : e = 0
      · subst he
        obtain ⟨t1, t2, t3, t4, t5, -⟩ := take1_one HT.out
        have t2' : k ≤ len := by have := HR.out.len; omega
        have hcap := HR.out.cap
        have hd1 : decide ((k : Int) < 1) = false := by simp; omega
        have hd2 : decide (len < k) = false := by simp; omega
        have hsl := run_head A len cap k (by omega)
        have HP := Lib.hid (fun W => putN_any n t5 W)
        have RK : Row cb w2 A k cap (enc n) := by rw [t4]; exact (HR.out.below B2.out).head (by omega)
        have HRK := Lib.hid RK
        have hs := run_str RK.drew
        have hl10 : (enc n).length ≤ 140737488351232 := by rw [t4, List.length_take]; omega
        clear t4 t5 t2 RK
        generalize enc n = x at *
        refine wp_region_held_drew (S := fun W => (convert 23 9 (.slice A k cap)).run Try.prog W = .ok (.string (str x)) W) (by kernel_rfl) hs (fun hHeld => ?_)
        clear hs
        (first | (refine Reg.take 0 (v := ?_) rfl (by kernel_rfl) (by kernel_rfl) (by kernel_rfl) (fun _ _ _ h => h) (Or.inl ⟨by rfl, ?_⟩) (by assumption) ?_; rotate_left; (focus ((intro W hSW); (try dsimp only at hSW); go_simp; (try (with_reducible rfl)); done))) | (refine Reg.take 0 (v := undef) rfl (by kernel_rfl) (by kernel_rfl) (by kernel_rfl) (fun _ _ _ h => h) (Or.inr ⟨by rfl, rfl⟩) (by assumption) ?_))
        (try simp only [Act.put, List.setIfInBounds_toArray, List.set_cons_zero, List.set_cons_succ])
        (first | (refine Reg.take 1 (v := ?_) rfl (by kernel_rfl) (by kernel_rfl) (by kernel_rfl) (fun _ _ _ h => h) (Or.inl ⟨by rfl, ?_⟩) (by assumption) ?_; rotate_left; (focus ((intro W hSW); (try dsimp only at hSW); go_simp; (try (with_reducible rfl)); done))) | (refine Reg.take 1 (v := undef) rfl (by kernel_rfl) (by kernel_rfl) (by kernel_rfl) (fun _ _ _ h => h) (Or.inr ⟨by rfl, rfl⟩) (by assumption) ?_))
        (try simp only [Act.put, List.setIfInBounds_toArray, List.set_cons_zero, List.set_cons_succ])
        (first | (refine Reg.take 2 (v := ?_) rfl (by kernel_rfl) (by kernel_rfl) (by kernel_rfl) (fun _ _ _ h => h) (Or.inl ⟨by rfl, ?_⟩) (by assumption) ?_; rotate_left; (focus ((intro W hSW); (try dsimp only at hSW); go_simp; (try (with_reducible rfl)); done))) | (refine Reg.take 2 (v := undef) rfl (by kernel_rfl) (by kernel_rfl) (by kernel_rfl) (fun _ _ _ h => h) (Or.inr ⟨by rfl, rfl⟩) (by assumption) ?_))
        (try simp only [Act.put, List.setIfInBounds_toArray, List.set_cons_zero, List.set_cons_succ])
        (first | (refine Reg.take 3 (v := ?_) rfl (by kernel_rfl) (by kernel_rfl) (by kernel_rfl) (fun _ _ _ h => h) (Or.inl ⟨by rfl, ?_⟩) (by assumption) ?_; rotate_left; (focus ((intro W hSW); (try dsimp only at hSW); go_simp; (try (with_reducible rfl)); done))) | (refine Reg.take 3 (v := undef) rfl (by kernel_rfl) (by kernel_rfl) (by kernel_rfl) (fun _ _ _ h => h) (Or.inr ⟨by rfl, rfl⟩) (by assumption) ?_))
        (try simp only [Act.put, List.setIfInBounds_toArray, List.set_cons_zero, List.set_cons_succ])
        (first | (refine Reg.take 4 (v := ?_) rfl (by kernel_rfl) (by kernel_rfl) (by kernel_rfl) (fun _ _ _ h => h) (Or.inl ⟨by rfl, ?_⟩) (by assumption) ?_; rotate_left; (focus ((intro W hSW); (try dsimp only at hSW); go_simp; (try (with_reducible rfl)); done))) | (refine Reg.take 4 (v := undef) rfl (by kernel_rfl) (by kernel_rfl) (by kernel_rfl) (fun _ _ _ h => h) (Or.inr ⟨by rfl, rfl⟩) (by assumption) ?_))
        (try simp only [Act.put, List.setIfInBounds_toArray, List.set_cons_zero, List.set_cons_succ])
        (first | (refine Reg.take 5 (v := ?_) rfl (by kernel_rfl) (by kernel_rfl) (by kernel_rfl) (fun _ _ _ h => h) (Or.inl ⟨by rfl, ?_⟩) (by assumption) ?_; rotate_left; (focus ((intro W hSW); (try dsimp only at hSW); go_simp; (try (with_reducible rfl)); done))) | (refine Reg.take 5 (v := undef) rfl (by kernel_rfl) (by kernel_rfl) (by kernel_rfl) (fun _ _ _ h => h) (Or.inr ⟨by rfl, rfl⟩) (by assumption) ?_))
        (try simp only [Act.put, List.setIfInBounds_toArray, List.set_cons_zero, List.set_cons_succ])
        (first | (refine Reg.take 6 (v := ?_) rfl (by kernel_rfl) (by kernel_rfl) (by kernel_rfl) (fun _ _ _ h => h) (Or.inl ⟨by rfl, ?_⟩) (by assumption) ?_; rotate_left; (focus ((intro W hSW); (try dsimp only at hSW); go_simp; (try (with_reducible rfl)); done))) | (refine Reg.take 6 (v := undef) rfl (by kernel_rfl) (by kernel_rfl) (by kernel_rfl) (fun _ _ _ h => h) (Or.inr ⟨by rfl, rfl⟩) (by assumption) ?_))
        (try simp only [Act.put, List.setIfInBounds_toArray, List.set_cons_zero, List.set_cons_succ])
        (first | (refine Reg.take 7 (v := ?_) rfl (by kernel_rfl) (by kernel_rfl) (by kernel_rfl) (fun _ _ _ h => h) (Or.inl ⟨by rfl, ?_⟩) (by assumption) ?_; rotate_left; (focus ((intro W hSW); (try dsimp only at hSW); go_simp; (try (with_reducible rfl)); done))) | (refine Reg.take 7 (v := undef) rfl (by kernel_rfl) (by kernel_rfl) (by kernel_rfl) (fun _ _ _ h => h) (Or.inr ⟨by rfl, rfl⟩) (by assumption) ?_))
        (try simp only [Act.put, List.setIfInBounds_toArray, List.set_cons_zero, List.set_cons_succ])
        (first | (refine Reg.take 8 (v := ?_) rfl (by kernel_rfl) (by kernel_rfl) (by kernel_rfl) (fun _ _ _ h => h) (Or.inl ⟨by rfl, ?_⟩) (by assumption) ?_; rotate_left; (focus ((intro W hSW); (try dsimp only at hSW); go_simp; (try (with_reducible rfl)); done))) | (refine Reg.take 8 (v := undef) rfl (by kernel_rfl) (by kernel_rfl) (by kernel_rfl) (fun _ _ _ h => h) (Or.inr ⟨by rfl, rfl⟩) (by assumption) ?_))
        (try simp only [Act.put, List.setIfInBounds_toArray, List.set_cons_zero, List.set_cons_succ])
        (first | (refine Reg.take 9 (v := ?_) rfl (by kernel_rfl) (by kernel_rfl) (by kernel_rfl) (fun _ _ _ h => h) (Or.inl ⟨by rfl, ?_⟩) (by assumption) ?_; rotate_left; (focus ((intro W hSW); (try dsimp only at hSW); go_simp; (try (with_reducible rfl)); done))) | (refine Reg.take 9 (v := undef) rfl (by kernel_rfl) (by kernel_rfl) (by kernel_rfl) (fun _ _ _ h => h) (Or.inr ⟨by rfl, rfl⟩) (by assumption) ?_))
        (try simp only [Act.put, List.setIfInBounds_toArray, List.set_cons_zero, List.set_cons_succ])
        (first | (refine Reg.take 10 (v := ?_) rfl (by kernel_rfl) (by kernel_rfl) (by kernel_rfl) (fun _ _ _ h => h) (Or.inl ⟨by rfl, ?_⟩) (by assumption) ?_; rotate_left; (focus ((intro W hSW); (try dsimp only at hSW); go_simp; (try (with_reducible rfl)); done))) | (refine Reg.take 10 (v := undef) rfl (by kernel_rfl) (by kernel_rfl) (by kernel_rfl) (fun _ _ _ h => h) (Or.inr ⟨by rfl, rfl⟩) (by assumption) ?_))
        (try simp only [Act.put, List.setIfInBounds_toArray, List.set_cons_zero, List.set_cons_succ])
        (first | (refine Reg.take 11 (v := ?_) rfl (by kernel_rfl) (by kernel_rfl) (by kernel_rfl) (fun _ _ _ h => h) (Or.inl ⟨by rfl, ?_⟩) (by assumption) ?_; rotate_left; (focus ((intro W hSW); (try dsimp only at hSW); go_simp; (try (with_reducible rfl)); done))) | (refine Reg.take 11 (v := undef) rfl (by kernel_rfl) (by kernel_rfl) (by kernel_rfl) (fun _ _ _ h => h) (Or.inr ⟨by rfl, rfl⟩) (by assumption) ?_))
        (try simp only [Act.put, List.setIfInBounds_toArray, List.set_cons_zero, List.set_cons_succ])
        (first | (refine Reg.take 12 (v := ?_) rfl (by kernel_rfl) (by kernel_rfl) (by kernel_rfl) (fun _ _ _ h => h) (Or.inl ⟨by rfl, ?_⟩) (by assumption) ?_; rotate_left; (focus ((intro W hSW); (try dsimp only at hSW); go_simp; (try (with_reducible rfl)); done))) | (refine Reg.take 12 (v := undef) rfl (by kernel_rfl) (by kernel_rfl) (by kernel_rfl) (fun _ _ _ h => h) (Or.inr ⟨by rfl, rfl⟩) (by assumption) ?_))
        (try simp only [Act.put, List.setIfInBounds_toArray, List.set_cons_zero, List.set_cons_succ])
        (first | (refine Reg.take 15 (v := ?_) rfl (by kernel_rfl) (by kernel_rfl) (by kernel_rfl) (fun _ _ _ h => h) (Or.inl ⟨by rfl, ?_⟩) (by assumption) ?_; rotate_left; (focus ((intro W hSW); (try dsimp only at hSW); go_simp; (try (with_reducible rfl)); done))) | (refine Reg.take 15 (v := undef) rfl (by kernel_rfl) (by kernel_rfl) (by kernel_rfl) (fun _ _ _ h => h) (Or.inr ⟨by rfl, rfl⟩) (by assumption) ?_))
        (try simp only [Act.put, List.setIfInBounds_toArray, List.set_cons_zero, List.set_cons_succ])
        (first | (refine Reg.take 16 (v := ?_) rfl (by kernel_rfl) (by kernel_rfl) (by kernel_rfl) (fun _ _ _ h => h) (Or.inl ⟨by rfl, ?_⟩) (by assumption) ?_; rotate_left; (focus ((intro W hSW); (try dsimp only at hSW); go_simp; (try (with_reducible rfl)); done))) | (refine Reg.take 16 (v := undef) rfl (by kernel_rfl) (by kernel_rfl) (by kernel_rfl) (fun _ _ _ h => h) (Or.inr ⟨by rfl, rfl⟩) (by assumption) ?_))
        (try simp only [Act.put, List.setIfInBounds_toArray, List.set_cons_zero, List.set_cons_succ])
        (first | (refine Reg.take 17 (v := ?_) rfl (by kernel_rfl) (by kernel_rfl) (by kernel_rfl) (fun _ _ _ h => h) (Or.inl ⟨by rfl, ?_⟩) (by assumption) ?_; rotate_left; (focus ((intro W hSW); (try dsimp only at hSW); go_simp; (try (with_reducible rfl)); done))) | (refine Reg.take 17 (v := undef) rfl (by kernel_rfl) (by kernel_rfl) (by kernel_rfl) (fun _ _ _ h => h) (Or.inr ⟨by rfl, rfl⟩) (by assumption) ?_))
        (try simp only [Act.put, List.setIfInBounds_toArray, List.set_cons_zero, List.set_cons_succ])
        (first | (refine Reg.take 18 (v := ?_) rfl (by kernel_rfl) (by kernel_rfl) (by kernel_rfl) (fun _ _ _ h => h) (Or.inl ⟨by rfl, ?_⟩) (by assumption) ?_; rotate_left; (focus ((intro W hSW); (try dsimp only at hSW); go_simp; (try (with_reducible rfl)); done))) | (refine Reg.take 18 (v := undef) rfl (by kernel_rfl) (by kernel_rfl) (by kernel_rfl) (fun _ _ _ h => h) (Or.inr ⟨by rfl, rfl⟩) (by assumption) ?_))
        (try simp only [Act.put, List.setIfInBounds_toArray, List.set_cons_zero, List.set_cons_succ])
        refine Reg.step 13 rfl (by kernel_rfl) (by rfl) (fun K hK => ?_)
        go_simp
        refine (HP.out _).mono ?_
        rintro en w3 ⟨X3, k3, c3, rfl, hX3, hb3⟩
        obtain ⟨hx3, hk3⟩ := gave_row hX3 hl10
        have hs3 := run_str hx3
        have B3 := Lib.hid (B2.out.trans ((((Below.refl _ w2).drew).trans hb3).mono B2.out.size))
        refine hK.out _ _ (run_str (HRK.out.drew.below hb3)) (fun hHeld3 => ?_)
        clear hK K hHeld hX3 hb3 hx3 hk3
        (try simp only [Act.put, List.setIfInBounds_toArray, List.set_cons_zero, List.set_cons_succ])
        refine Reg.step 14 rfl (by kernel_rfl) (by rfl) (fun K hK => ?_)
        go_simp
        refine hK.out _ _ hHeld3 (fun _ => ?_)
        clear hK K
        (first | (refine Reg.take 19 (v := ?_) rfl (by kernel_rfl) (by kernel_rfl) (by kernel_rfl) (fun _ _ _ h => h) (Or.inl ⟨by rfl, ?_⟩) (by assumption) ?_; rotate_left; (focus ((intro W hSW); (try dsimp only at hSW); go_simp; (try (with_reducible rfl)); done))) | (refine Reg.take 19 (v := undef) rfl (by kernel_rfl) (by kernel_rfl) (by kernel_rfl) (fun _ _ _ h => h) (Or.inr ⟨by rfl, rfl⟩) (by assumption) ?_))
        (try simp only [Act.put, List.setIfInBounds_toArray, List.set_cons_zero, List.set_cons_succ])
        (first | (refine Reg.take 20 (v := ?_) rfl (by kernel_rfl) (by kernel_rfl) (by kernel_rfl) (fun _ _ _ h => h) (Or.inl ⟨by rfl, ?_⟩) (by assumption) ?_; rotate_left; (focus ((intro W hSW); (try dsimp only at hSW); go_simp; (try (with_reducible rfl)); done))) | (refine Reg.take 20 (v := undef) rfl (by kernel_rfl) (by kernel_rfl) (by kernel_rfl) (fun _ _ _ h => h) (Or.inr ⟨by rfl, rfl⟩) (by assumption) ?_))
        (try simp only [Act.put, List.setIfInBounds_toArray, List.set_cons_zero, List.set_cons_succ])
        (first | (refine Reg.take 21 (v := ?_) rfl (by kernel_rfl) (by kernel_rfl) (by kernel_rfl) (fun _ _ _ h => h) (Or.inl ⟨by rfl, ?_⟩) (by assumption) ?_; rotate_left; (focus ((intro W hSW); (try dsimp only at hSW); go_simp; (try (with_reducible rfl)); done))) | (refine Reg.take 21 (v := undef) rfl (by kernel_rfl) (by kernel_rfl) (by kernel_rfl) (fun _ _ _ h => h) (Or.inr ⟨by rfl, rfl⟩) (by assumption) ?_))
        (try simp only [Act.put, List.setIfInBounds_toArray, List.set_cons_zero, List.set_cons_succ])
        refine wpAnyH_done (by kernel_rfl) ?_ _
        clear hHeld3 hs3
        go_wp2_with fail
        go_meet
        exact ⟨rfl, B3.out⟩
      · have hne : ((e : Int) == 0) = false := beq_eq_false_iff_ne.2 (by omega)
        clear he
        go_quiet (fail)
        go_wp2_with fail
        go_meet
        exact ⟨rfl, B2.out.trans (below_drewN _ _ _)⟩
    case rest =>
      obtain ⟨rfl, hB⟩ := hcut
      clear B1 B2
      go_wp2_with fail
      refine (takeVec_at (HR.out.below hB.out) (by omega) HV.out).mono ?_
      rintro en w4 ⟨Y, j, d, rfl, hY, hb⟩
      have B4 := Lib.hid (hB.out.trans (hb.mono hB.out.size))
      have OY := Lib.hid hY
      clear hb hY hB
      go_upto_if 53 with fail
      go_cut [2] (fun s wx => s = .bool false ∧ Hid (Below w.heap.size w wx))
      case first =>
        by_cases he : ev = 0
        · subst he
          obtain ⟨t1, t2, t3, t4⟩ := vec1_one HV.out
          have t2' : kv ≤ len := by have := HR.out.len; omega
          have hcap := HR.out.cap
          have hd1 : decide ((kv : Int) < 1) = false := by simp; omega
          have hd2 : decide (len < kv) = false := by simp; omega
          have hsl := run_head A len cap kv (by omega)
          obtain ⟨hy, rfl⟩ := gave_row OY.out (by omega)
          have RY := Lib.hid hy
          have RK : Row cb w4 A kv cap (encV v) := by rw [t1]; exact (HR.out.below B4.out).head (by omega)
          have HRK := Lib.hid RK
          have HVc := Lib.hid (fun W (h : Row cb W Y v.length d v) => vec_ok h t3)
          have hl := RK.big
          have hl2 := RK.len
          have hl3 : (encV v).length ≤ 140737488351232 := by omega
          clear t1 t2 RK hy hl hl2
          generalize encV v = x at *
          go_wp2_with (go_at_call 16; refine (HVc.out _ RY.out).mono ?_; rintro en w5 ⟨X, k5, c5, rfl, hX, hb⟩; obtain ⟨hx, hk5⟩ := gave_row hX hl3; have B5 := Lib.hid (B4.out.trans (hb.mono B4.out.size)); have HX := Lib.hid hx; have HRK5 := Lib.hid (HRK.out.below hb); have hs1 := fun q => run_str (HX.out.drewN q); have hs2 := fun q => run_str (HRK5.out.drewN q); clear hX hx hk5 hb)
          go_quiet (fail)
          go_wp2_with fail
          go_meet
          exact ⟨rfl, B5.out.trans (below_drewN _ _ _)⟩
        · have hne : ((ev : Int) == 0) = false := beq_eq_false_iff_ne.2 (by omega)
          clear he
          go_wp2_with fail
          go_meet
          exact ⟨rfl, B4.out⟩
      case rest =>
        obtain ⟨rfl, hB⟩ := hcut
        clear B4 OY HT HV
        rcases hm : msg1 l with ⟨mh, ma, mv, km, em⟩
        have HM := Lib.hid hm
        clear hm
        by_cases he : em = 0
        · subst he
          obtain ⟨x, y, z, i, rfl, m1, m2, m3, m4, m5, m6, m7⟩ := msg1_one HM.out
          have m6' : km ≤ len := by have := HR.out.len; omega
          have hcap := HR.out.cap
          have hd1 : decide ((1 : Int) ≤ (km : Int)) = true := by simp; omega
          have hd2 : decide (km ≤ len) = true := by simp; omega
          have hsl := run_head A len cap km (by omega)
          have HMsg := Lib.hid (fun W (A : Option Addr) (c : Nat) (B : Option Addr) (d : Nat) (h1 : Row ci W A ma.length c (asInts ma)) (h2 : Row cb W B mv.length d mv) => msg_ok (k := x) (f := y) (t := z) (i := i) (m1 x (by simp)) (m1 y (by simp)) (m1 z (by simp)) (m1 i (by simp)) m2 h1 h2 m3 m4)
          have RK : Row cb wc A km cap (encM [x, y, z, i, ma.length] ma mv) := by rw [m7]; exact (HR.out.below hB.out).head (by omega)
          have HRK := Lib.hid RK
          have hl3 : (encM [x, y, z, i, ma.length] ma mv).length ≤ 140737488351232 := by rw [m7, List.length_take]; omega
          clear m1 m2 m5 m6 m7 RK
          generalize encM [x, y, z, i, ma.length] ma mv = xb at *
          go_wp2_with fail
          refine (takeMsg_ok (HR.out.below hB.out) (by omega) HM.out).mono ?_
          rintro en w6 ⟨P, kp, cp, V, kq, cq, rfl, hP, hQ, hb⟩
          obtain ⟨hp, rfl⟩ := gave_row hP (by simp [asInts]; omega)
          obtain ⟨hq, rfl⟩ := gave_row hQ (by omega)
          have hpl : (asInts ma).length = ma.length := by simp [asInts]
          rw [hpl] at hp
          have B6 := Lib.hid (hB.out.trans (hb.mono hB.out.size))
          have RP := Lib.hid hp
          have RQ := Lib.hid hq
          have HRK6 := Lib.hid (HRK.out.below hb)
          rw [hpl]
          clear hb hP hQ hp hq hpl HRK HM
          go_wp2_with fail
          refine (HMsg.out _ P cp V cq (RP.out.alloc _) (RQ.out.alloc _)).mono ?_
          rintro en w7 ⟨X, k7, c7, rfl, hX, hb⟩
          obtain ⟨hx, hk7⟩ := gave_row hX hl3
          rw [World.size_alloc] at hb
          have b67 : Below w6.heap.size w6 w7 := ((Below.refl _ w6).alloc (Nat.le_refl _) _).trans (hb.mono (by omega))
          have B7 := Lib.hid (B6.out.trans (b67.mono B6.out.size))
          have HX := Lib.hid hx
          have HRK7 := Lib.hid (HRK6.out.below b67)
          have hs1 := fun q => run_str (HX.out.drewN q)
          have hs2 := fun q => run_str (HRK7.out.drewN q)
          clear hX hb hx hk7 b67 HMsg RP RQ HRK6 B6
          go_wp2_with fail
          go_quiet (fail)
          go_wp2
          go_ret
          exact ⟨rfl, B7.out.trans (below_drewN _ _ _)⟩
        · obtain ⟨rfl, h3⟩ := msg1_bad HM.out he
          have HN := Lib.hid (fun W (h : Row cb W A len cap l) => takeMsg_bad h (by omega) HM.out he)
          clear he
          rcases h3 with rfl | rfl | rfl
          all_goals
            go_wp2_with (go_at_call 11; refine (HN.out _ (HR.out.below hB.out)).mono ?_; rintro en w6 ⟨rfl, hb⟩; have B6 := Lib.hid (hB.out.trans (hb.mono hB.out.size)); clear hb)
            go_ret
            exact ⟨rfl, B6.out.alloc B6.out.size _⟩

theorem wireOne_says : Frame.Says Rows.wireOneSpec 1 := by
  refine ⟨rfl, fun H ds h => ?_, fun H ds h => ?_, fun H ds h => ?_⟩ <;>
  · match ds, h with
    | [d1], _ => rfl

theorem wireOne_walks : Frame.Walks 4 [23] := by
  intro H enc W args ds ps base hok hA hsz
  obtain ⟨v0, vs0, d0, ds0, p0, q0, hargs, rfl, rfl, h0, r0⟩ := trodAll_cons hA
  obtain ⟨rfl, rfl, rfl⟩ := trodAll_nil r0
  obtain rfl : args = #[v0] := by cases args; simp_all
  obtain ⟨A, len, cap, l, rfl, l0⟩ := open_bytes (hok 0 _ v0 rfl rfl) h0 (sized_arg hsz (j := 0) rfl rfl)
  exact wireOne_walk A len cap l W l0

theorem wireOne_over : Rows.wireOneRow.holds Try.pinned (OpenSpec.ofChange Rows.wireOneSpec) :=
  OpenClaim.holds_of_wide 4 Try.f4 rfl rfl rfl rfl rfl rfl rfl ⟨rfl, rfl, rfl, rfl, rfl⟩ rfl rfl rfl rfl rfl (by kernel_rfl) Try.func4 (by kernel_rfl)
    (of_decide_eq_true (by kernel_rfl)) (by unfold Func.isWrapper; first | (rw [if_pos (by decide +kernel)]; kernel_rfl) | (rw [if_neg (by decide +kernel)]; exact ⟨rfl, rfl⟩))
    (fun os started H enc _ => Frame.lifted (started := started) Try.underlying4 (by kernel_rfl) Try.func4 (n := 1) (by rw [Try.params4]; rfl) wireOne_says (by rw [Try.params4]; kernel_rfl) (by kernel_rfl)
      (ChangeSpec.witness6 (enc := enc) (C := Try.checked) false ⟨#[], #[.slice none 0 0], []⟩ 8 (by kernel_rfl) (by kernel_rfl) (by kernel_rfl) (by kernel_rfl))
      (by rw [Try.params4]; exact wireOne_walks))
end Wire
/-- The given statement. -/
theorem wireOne_holds : Rows.WireOneSaid := Wire.wireOne_over
end Go.Proofs.Ytdnmopoabeabkaa
