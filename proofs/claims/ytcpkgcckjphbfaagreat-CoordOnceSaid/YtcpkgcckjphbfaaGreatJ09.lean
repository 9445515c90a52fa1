/-
  SEVERAL TEXTS IN ONE FILE: LeaMay, SortLay, LeaDiff.
-/
import Derived.Test.YtcpkgcckjphbfaaGreatJ05
import Derived.Test.YtcpkgcckjphbfaaGreatRows
import Derived.Shelf.Sort.Plain
import Derived.Shelf.Slices.CompactI
/-
  WALKS: which hosts, times and leases may be; whether keys rise.
-/
namespace Go.Proofs.YtcpkgcckjphbfaaGreat
open Go.RowKit Mem
namespace Lea

set_option maxRecDepth 100000 in
set_option maxHeartbeats 800000 in
theorem host_any (h : Int) (w : World) : Calls Tryz.prog 80 #[.int .i64 h] w fun e w' => e = .returned (.bool (hostB h)) ∧ w' = w := by
  unfold hostB
  rcases e1 : decide (0 ≤ h)
  · go_enter Tryz.func80, Tryz.ntmps80
    go_wp2
    go_ret
    exact ⟨rfl, rfl⟩
  · rcases e2 : decide (h < 8)
    · go_enter Tryz.func80, Tryz.ntmps80
      go_wp2
      go_ret
      exact ⟨rfl, rfl⟩
    · go_enter Tryz.func80, Tryz.ntmps80
      go_wp2
      go_ret
      exact ⟨rfl, rfl⟩

set_option maxRecDepth 100000 in
set_option maxHeartbeats 800000 in
theorem ttl_any (h : Int) (w : World) : Calls Tryz.prog 99 #[.int .i64 h] w fun e w' => e = .returned (.bool (ttlB h)) ∧ w' = w := by
  unfold ttlB
  rcases e1 : decide (1 ≤ h)
  · go_enter Tryz.func99, Tryz.ntmps99
    go_wp2
    go_ret
    exact ⟨rfl, rfl⟩
  · rcases e2 : decide (h ≤ 1099511627776)
    · go_enter Tryz.func99, Tryz.ntmps99
      go_wp2
      go_ret
      exact ⟨rfl, rfl⟩
    · go_enter Tryz.func99, Tryz.ntmps99
      go_wp2
      go_ret
      exact ⟨rfl, rfl⟩

set_option maxRecDepth 100000 in
set_option maxHeartbeats 3200000 in
theorem may_any (last now : Int) (A : Option Addr) (n c : Nat) (x : Lv) (w : World) :
    Calls Tryz.prog 58 #[tv last now A n c, lv x] w fun e w' => e = .returned (.bool (mayB last now x)) ∧ Below w.heap.size w w' := by
  have HH := fun w => Lib.hid (host_any x.host w)
  have L1 : Hid (Below w.heap.size w ((w.alloc (.cells #[.int .i64 last, .int .i64 now, .slice A n c] 27)).alloc (.cells #[.int .i64 x.key, .int .i64 x.host, .int .i64 x.epoch, .int .i64 x.til] 65))) := ((Below.refl w.heap.size w).alloc (Nat.le_refl _) _).alloc (by simp) _
  have B1 : Hid (TBox ((w.alloc (.cells #[.int .i64 last, .int .i64 now, .slice A n c] 27)).alloc (.cells #[.int .i64 x.key, .int .i64 x.host, .int .i64 x.epoch, .int .i64 x.til] 65)) w.heap.size last now A n c) := heap_alloc2_old w _ _
  have B2 : Hid (LBox ((w.alloc (.cells #[.int .i64 last, .int .i64 now, .slice A n c] 27)).alloc (.cells #[.int .i64 x.key, .int .i64 x.host, .int .i64 x.epoch, .int .i64 x.til] 65)) (w.heap.size + 1) x) := heap_alloc2_new w _ _
  unfold mayB
  rcases e1 : decide (0 ≤ x.key)
  · go_enter Tryz.func58, Tryz.ntmps58
    go_upto_region 1 with fail
    generalize (w.alloc (.cells #[.int .i64 last, .int .i64 now, .slice A n c] 27)).alloc (.cells #[.int .i64 x.key, .int .i64 x.host, .int .i64 x.epoch, .int .i64 x.til] 65) = w1 at *
    obtain ⟨m0, m1, m2⟩ := TBox.cells B1.out
    obtain ⟨n0, n1, n2, n3⟩ := LBox.cells B2.out
    go_wp2_with fail
    go_ret
    exact ⟨rfl, L1.out⟩
  · rcases e2 : hostB x.host
    · rw [e2] at HH
      go_enter Tryz.func58, Tryz.ntmps58
      go_upto_region 1 with fail
      generalize (w.alloc (.cells #[.int .i64 last, .int .i64 now, .slice A n c] 27)).alloc (.cells #[.int .i64 x.key, .int .i64 x.host, .int .i64 x.epoch, .int .i64 x.til] 65) = w1 at *
      obtain ⟨m0, m1, m2⟩ := TBox.cells B1.out
      obtain ⟨n0, n1, n2, n3⟩ := LBox.cells B2.out
      go_wp2_with (go_at_call 80; refine (HH _).out.mono ?_; rintro e w2 ⟨rfl, rfl⟩)
      go_ret
      exact ⟨rfl, L1.out⟩
    · rw [e2] at HH
      rcases e3 : decide (1 ≤ x.epoch)
      · go_enter Tryz.func58, Tryz.ntmps58
        go_upto_region 1 with fail
        generalize (w.alloc (.cells #[.int .i64 last, .int .i64 now, .slice A n c] 27)).alloc (.cells #[.int .i64 x.key, .int .i64 x.host, .int .i64 x.epoch, .int .i64 x.til] 65) = w1 at *
        obtain ⟨m0, m1, m2⟩ := TBox.cells B1.out
        obtain ⟨n0, n1, n2, n3⟩ := LBox.cells B2.out
        go_wp2_with (go_at_call 80; refine (HH _).out.mono ?_; rintro e w2 ⟨rfl, rfl⟩)
        go_ret
        exact ⟨rfl, L1.out⟩
      · rcases e4 : decide (x.epoch ≤ last)
        · go_enter Tryz.func58, Tryz.ntmps58
          go_upto_region 1 with fail
          generalize (w.alloc (.cells #[.int .i64 last, .int .i64 now, .slice A n c] 27)).alloc (.cells #[.int .i64 x.key, .int .i64 x.host, .int .i64 x.epoch, .int .i64 x.til] 65) = w1 at *
          obtain ⟨m0, m1, m2⟩ := TBox.cells B1.out
          obtain ⟨n0, n1, n2, n3⟩ := LBox.cells B2.out
          go_wp2_with (go_at_call 80; refine (HH _).out.mono ?_; rintro e w2 ⟨rfl, rfl⟩)
          go_ret
          exact ⟨rfl, L1.out⟩
        · go_enter Tryz.func58, Tryz.ntmps58
          go_upto_region 1 with fail
          generalize (w.alloc (.cells #[.int .i64 last, .int .i64 now, .slice A n c] 27)).alloc (.cells #[.int .i64 x.key, .int .i64 x.host, .int .i64 x.epoch, .int .i64 x.til] 65) = w1 at *
          obtain ⟨m0, m1, m2⟩ := TBox.cells B1.out
          obtain ⟨n0, n1, n2, n3⟩ := LBox.cells B2.out
          go_wp2_with (go_at_call 80; refine (HH _).out.mono ?_; rintro e w2 ⟨rfl, rfl⟩)
          go_ret
          exact ⟨rfl, L1.out⟩

set_option maxRecDepth 100000 in
set_option maxHeartbeats 1600000 in
/-- Check's own question of a lease: the table lies in block g. -/
theorem check1_any (last now : Int) (A : Option Addr) (n c g : Nat) (x : Lv) (w : World) (hg : TBox w g last now A n c) :
    Calls Tryz.prog 57 #[lv x, .pointer (some ⟨g, 0, none⟩)] w fun e w' => e = .returned (.bool (!mayB last now x)) ∧ Below w.heap.size w w' := by
  have HM := fun w => Lib.hid (may_any last now A n c x w)
  have L1 : Hid (Below w.heap.size w (w.alloc (.cells #[.int .i64 x.key, .int .i64 x.host, .int .i64 x.epoch, .int .i64 x.til] 65))) := (Below.refl w.heap.size w).alloc (Nat.le_refl _) _
  have B1 : Hid (TBox (w.alloc (.cells #[.int .i64 x.key, .int .i64 x.host, .int .i64 x.epoch, .int .i64 x.til] 65)) g last now A n c) := Cells.alloc hg _
  have B2 : Hid (LBox (w.alloc (.cells #[.int .i64 x.key, .int .i64 x.host, .int .i64 x.epoch, .int .i64 x.til] 65)) w.heap.size x) := Cells.new w _ _
  clear hg
  go_enter Tryz.func57, Tryz.ntmps57
  go_upto_region 1 with fail
  generalize w.alloc (.cells #[.int .i64 x.key, .int .i64 x.host, .int .i64 x.epoch, .int .i64 x.til] 65) = w1 at *
  obtain ⟨m0, m1, m2⟩ := TBox.cells B1.out
  obtain ⟨n0, n1, n2, n3⟩ := LBox.cells B2.out
  go_wp2_with fail
  refine (HM w1).out.mono ?_
  rintro e w2 ⟨rfl, hb⟩
  have L2 := Lib.hid (L1.out.trans (hb.mono L1.out.size))
  clear hb
  go_wp2_with fail
  go_ret
  exact ⟨rfl, L2.out⟩

theorem rises_of {l : List Lv} (h : ∀ i x y, l[i]? = some x → l[i + 1]? = some y → x.key < y.key) : Rises l := by
  unfold Rises
  induction l with
  | nil => exact List.Pairwise.nil
  | cons a l ih =>
    have ih' := ih (fun i x y hx hy => h (i + 1) x y (by simpa using hx) (by simpa using hy))
    refine List.Pairwise.cons ?_ ih'
    rcases l with _ | ⟨b, r⟩
    · intro y hy; cases hy
    · have h0 := h 0 a b rfl rfl
      intro y hy
      rcases List.mem_cons.1 hy with rfl | hy
      · exact h0
      · have := (List.pairwise_cons.1 ih').1 y hy; omega

set_option maxRecDepth 100000 in
set_option maxHeartbeats 1600000 in
theorem rise_any {A : Option Addr} {n c : Nat} {l : List Lv} {w : World} (h : RowL w A n c l) :
    Calls Tryz.prog 54 #[.slice A n c] w fun e w' => e = .returned (.bool (risesB l)) ∧ Below w.heap.size w w' := by
  have HR := Lib.hid h
  have hbig := h.big
  have hlen := Lib.hid h.len
  clear h
  go_enter Tryz.func54, Tryz.ntmps54
  go_wp2
  go_loopw [3] (fun i wr => ∃ k : Nat, i = .int .i64 k ∧ 1 ≤ k ∧ k ≤ n + 1 ∧ Hid (Below w.heap.size w wr ∧ ∀ j x y, j + 1 < k → l[j]? = some x → l[j + 1]? = some y → x.key < y.key)) (fun i _ => n + 1 - (intOf i).toNat)
  case atStart => exact ⟨1, rfl, by omega, by omega, Below.refl _ _, fun j x y hj => by omega⟩
  case round =>
    obtain ⟨k, rfl, hk1, hk, hH⟩ := hrel
    by_cases hlt : k < n
    · obtain ⟨y, hy⟩ := HR.out.get hlt
      obtain ⟨x, hx⟩ := HR.out.get (i := k - 1) (by omega)
      have RW := HR.out.below hH.out.1
      obtain ⟨b, o, hA, c0, c1, c2, c3⟩ := RowS.lease_at RW hy
      obtain ⟨b', o', hA', d0, d1, d2, d3⟩ := RowS.lease_at RW hx
      subst hA
      injection hA' with hA'
      injection hA' with e1 e2
      subst e1 e2
      clear RW c1 c2 c3 d1 d2 d3
      have hk0 : (0 : Int) ≤ (k : Int) := by omega
      have hkn : (k : Int) < (n : Int) := by omega
      have hj0 : (k : Int) - 1 = ((k - 1 : Nat) : Int) := by omega
      have HX := Lib.hid hx
      have HY := Lib.hid hy
      clear hx hy
      obtain ⟨j, hj⟩ : ∃ j, j = k - 1 := ⟨_, rfl⟩
      rw [← hj] at hj0 d0 HX
      have hjn : (j : Int) < (n : Int) := by omega
      have hj00 : (0 : Int) ≤ (j : Int) := by omega
      have hwr : IntKind.i64.wrap (j : Int) = (j : Int) := by rw [IntKind.wrap_i64]; omega
      have HJ := Lib.hid hj
      clear hj
      rcases e3 : decide (y.key ≤ x.key)
      · go_upto_region 4 with fail
        refine wp_region_held_drew (S := fun W => W.cell? ⟨b, o + k * 4, none⟩ = some (.int .i64 y.key) ∧ W.cell? ⟨b, o + j * 4, none⟩ = some (.int .i64 x.key)) (by kernel_rfl) ⟨c0, d0⟩ (fun hHeld => ?_)
        (first | (refine Reg.take 0 (v := ?_) rfl (by kernel_rfl) (by kernel_rfl) (by kernel_rfl) (fun _ _ _ h => h) (Or.inl ⟨by rfl, ?_⟩) (by assumption) ?_; rotate_left; (focus ((intro W hSW); (try dsimp only at hSW); (try go_split_ands); go_simp; (try (with_reducible rfl)); done))) | (refine Reg.take 0 (v := undef) rfl (by kernel_rfl) (by kernel_rfl) (by kernel_rfl) (fun _ _ _ h => h) (Or.inr ⟨by rfl, rfl⟩) (by assumption) ?_))
        (try simp only [Act.put, List.setIfInBounds_toArray, List.set_cons_zero, List.set_cons_succ])
        (first | (refine Reg.take 1 (v := ?_) rfl (by kernel_rfl) (by kernel_rfl) (by kernel_rfl) (fun _ _ _ h => h) (Or.inl ⟨by rfl, ?_⟩) (by assumption) ?_; rotate_left; (focus ((intro W hSW); (try dsimp only at hSW); (try go_split_ands); go_simp; (try (with_reducible rfl)); done))) | (refine Reg.take 1 (v := undef) rfl (by kernel_rfl) (by kernel_rfl) (by kernel_rfl) (fun _ _ _ h => h) (Or.inr ⟨by rfl, rfl⟩) (by assumption) ?_))
        (try simp only [Act.put, List.setIfInBounds_toArray, List.set_cons_zero, List.set_cons_succ])
        (first | (refine Reg.take 2 (v := ?_) rfl (by kernel_rfl) (by kernel_rfl) (by kernel_rfl) (fun _ _ _ h => h) (Or.inl ⟨by rfl, ?_⟩) (by assumption) ?_; rotate_left; (focus ((intro W hSW); (try dsimp only at hSW); (try go_split_ands); go_simp; (try (with_reducible rfl)); done))) | (refine Reg.take 2 (v := undef) rfl (by kernel_rfl) (by kernel_rfl) (by kernel_rfl) (fun _ _ _ h => h) (Or.inr ⟨by rfl, rfl⟩) (by assumption) ?_))
        (try simp only [Act.put, List.setIfInBounds_toArray, List.set_cons_zero, List.set_cons_succ])
        (first | (refine Reg.take 3 (v := ?_) rfl (by kernel_rfl) (by kernel_rfl) (by kernel_rfl) (fun _ _ _ h => h) (Or.inl ⟨by rfl, ?_⟩) (by assumption) ?_; rotate_left; (focus ((intro W hSW); (try dsimp only at hSW); (try go_split_ands); go_simp; (try (with_reducible rfl)); done))) | (refine Reg.take 3 (v := undef) rfl (by kernel_rfl) (by kernel_rfl) (by kernel_rfl) (fun _ _ _ h => h) (Or.inr ⟨by rfl, rfl⟩) (by assumption) ?_))
        (try simp only [Act.put, List.setIfInBounds_toArray, List.set_cons_zero, List.set_cons_succ])
        (first | (refine Reg.take 4 (v := ?_) rfl (by kernel_rfl) (by kernel_rfl) (by kernel_rfl) (fun _ _ _ h => h) (Or.inl ⟨by rfl, ?_⟩) (by assumption) ?_; rotate_left; (focus ((intro W hSW); (try dsimp only at hSW); (try go_split_ands); go_simp; (try (with_reducible rfl)); done))) | (refine Reg.take 4 (v := undef) rfl (by kernel_rfl) (by kernel_rfl) (by kernel_rfl) (fun _ _ _ h => h) (Or.inr ⟨by rfl, rfl⟩) (by assumption) ?_))
        (try simp only [Act.put, List.setIfInBounds_toArray, List.set_cons_zero, List.set_cons_succ])
        (first | (refine Reg.take 5 (v := ?_) rfl (by kernel_rfl) (by kernel_rfl) (by kernel_rfl) (fun _ _ _ h => h) (Or.inl ⟨by rfl, ?_⟩) (by assumption) ?_; rotate_left; (focus ((intro W hSW); (try dsimp only at hSW); (try go_split_ands); go_simp; (try (with_reducible rfl)); done))) | (refine Reg.take 5 (v := undef) rfl (by kernel_rfl) (by kernel_rfl) (by kernel_rfl) (fun _ _ _ h => h) (Or.inr ⟨by rfl, rfl⟩) (by assumption) ?_))
        (try simp only [Act.put, List.setIfInBounds_toArray, List.set_cons_zero, List.set_cons_succ])
        (first | (refine Reg.take 6 (v := ?_) rfl (by kernel_rfl) (by kernel_rfl) (by kernel_rfl) (fun _ _ _ h => h) (Or.inl ⟨by rfl, ?_⟩) (by assumption) ?_; rotate_left; (focus ((intro W hSW); (try dsimp only at hSW); (try go_split_ands); go_simp; (try (with_reducible rfl)); done))) | (refine Reg.take 6 (v := undef) rfl (by kernel_rfl) (by kernel_rfl) (by kernel_rfl) (fun _ _ _ h => h) (Or.inr ⟨by rfl, rfl⟩) (by assumption) ?_))
        (try simp only [Act.put, List.setIfInBounds_toArray, List.set_cons_zero, List.set_cons_succ])
        (first | (refine Reg.take 7 (v := ?_) rfl (by kernel_rfl) (by kernel_rfl) (by kernel_rfl) (fun _ _ _ h => h) (Or.inl ⟨by rfl, ?_⟩) (by assumption) ?_; rotate_left; (focus ((intro W hSW); (try dsimp only at hSW); (try go_split_ands); go_simp; (try (with_reducible rfl)); done))) | (refine Reg.take 7 (v := undef) rfl (by kernel_rfl) (by kernel_rfl) (by kernel_rfl) (fun _ _ _ h => h) (Or.inr ⟨by rfl, rfl⟩) (by assumption) ?_))
        (try simp only [Act.put, List.setIfInBounds_toArray, List.set_cons_zero, List.set_cons_succ])
        (first | (refine Reg.take 8 (v := ?_) rfl (by kernel_rfl) (by kernel_rfl) (by kernel_rfl) (fun _ _ _ h => h) (Or.inl ⟨by rfl, ?_⟩) (by assumption) ?_; rotate_left; (focus ((intro W hSW); (try dsimp only at hSW); (try go_split_ands); go_simp; (try (with_reducible rfl)); done))) | (refine Reg.take 8 (v := undef) rfl (by kernel_rfl) (by kernel_rfl) (by kernel_rfl) (fun _ _ _ h => h) (Or.inr ⟨by rfl, rfl⟩) (by assumption) ?_))
        (try simp only [Act.put, List.setIfInBounds_toArray, List.set_cons_zero, List.set_cons_succ])
        (first | (refine Reg.take 9 (v := ?_) rfl (by kernel_rfl) (by kernel_rfl) (by kernel_rfl) (fun _ _ _ h => h) (Or.inl ⟨by rfl, ?_⟩) (by assumption) ?_; rotate_left; (focus ((intro W hSW); (try dsimp only at hSW); (try go_split_ands); go_simp; (try (with_reducible rfl)); done))) | (refine Reg.take 9 (v := undef) rfl (by kernel_rfl) (by kernel_rfl) (by kernel_rfl) (fun _ _ _ h => h) (Or.inr ⟨by rfl, rfl⟩) (by assumption) ?_))
        (try simp only [Act.put, List.setIfInBounds_toArray, List.set_cons_zero, List.set_cons_succ])
        (first | (refine Reg.take 10 (v := ?_) rfl (by kernel_rfl) (by kernel_rfl) (by kernel_rfl) (fun _ _ _ h => h) (Or.inl ⟨by rfl, ?_⟩) (by assumption) ?_; rotate_left; (focus ((intro W hSW); (try dsimp only at hSW); (try go_split_ands); go_simp; (try (with_reducible rfl)); done))) | (refine Reg.take 10 (v := undef) rfl (by kernel_rfl) (by kernel_rfl) (by kernel_rfl) (fun _ _ _ h => h) (Or.inr ⟨by rfl, rfl⟩) (by assumption) ?_))
        (try simp only [Act.put, List.setIfInBounds_toArray, List.set_cons_zero, List.set_cons_succ])
        (first | (refine Reg.take 11 (v := ?_) rfl (by kernel_rfl) (by kernel_rfl) (by kernel_rfl) (fun _ _ _ h => h) (Or.inl ⟨by rfl, ?_⟩) (by assumption) ?_; rotate_left; (focus ((intro W hSW); (try dsimp only at hSW); (try go_split_ands); go_simp; (try (with_reducible rfl)); done))) | (refine Reg.take 11 (v := undef) rfl (by kernel_rfl) (by kernel_rfl) (by kernel_rfl) (fun _ _ _ h => h) (Or.inr ⟨by rfl, rfl⟩) (by assumption) ?_))
        (try simp only [Act.put, List.setIfInBounds_toArray, List.set_cons_zero, List.set_cons_succ])
        refine wpAnyH_done (by kernel_rfl) ?_ _
        go_wp2_with fail
        go_roundw
        case rel =>
          refine ⟨k + 1, by go_num, by omega, by omega, hH.out.1.drew, fun i a b' hi ha hb' => ?_⟩
          by_cases h1 : i + 1 < k
          · exact hH.out.2 i a b' h1 ha hb'
          · have h2 : i = j := by have := HJ.out; omega
            subst h2
            have h3 := HX.out.symm.trans ha
            injection h3 with h3; subst h3
            have h4 := HY.out.symm.trans ((by have := HJ.out; rw [show k = i + 1 by omega]; exact hb') : l[k]? = some b')
            injection h4 with h4; subst h4
            have := of_decide_eq_false e3; omega
        case measure => simp [intOf]; omega
      · go_upto_region 4 with fail
        refine wp_region_held_drew (S := fun W => W.cell? ⟨b, o + k * 4, none⟩ = some (.int .i64 y.key) ∧ W.cell? ⟨b, o + j * 4, none⟩ = some (.int .i64 x.key)) (by kernel_rfl) ⟨c0, d0⟩ (fun hHeld => ?_)
        (first | (refine Reg.take 0 (v := ?_) rfl (by kernel_rfl) (by kernel_rfl) (by kernel_rfl) (fun _ _ _ h => h) (Or.inl ⟨by rfl, ?_⟩) (by assumption) ?_; rotate_left; (focus ((intro W hSW); (try dsimp only at hSW); (try go_split_ands); go_simp; (try (with_reducible rfl)); done))) | (refine Reg.take 0 (v := undef) rfl (by kernel_rfl) (by kernel_rfl) (by kernel_rfl) (fun _ _ _ h => h) (Or.inr ⟨by rfl, rfl⟩) (by assumption) ?_))
        (try simp only [Act.put, List.setIfInBounds_toArray, List.set_cons_zero, List.set_cons_succ])
        (first | (refine Reg.take 1 (v := ?_) rfl (by kernel_rfl) (by kernel_rfl) (by kernel_rfl) (fun _ _ _ h => h) (Or.inl ⟨by rfl, ?_⟩) (by assumption) ?_; rotate_left; (focus ((intro W hSW); (try dsimp only at hSW); (try go_split_ands); go_simp; (try (with_reducible rfl)); done))) | (refine Reg.take 1 (v := undef) rfl (by kernel_rfl) (by kernel_rfl) (by kernel_rfl) (fun _ _ _ h => h) (Or.inr ⟨by rfl, rfl⟩) (by assumption) ?_))
        (try simp only [Act.put, List.setIfInBounds_toArray, List.set_cons_zero, List.set_cons_succ])
        (first | (refine Reg.take 2 (v := ?_) rfl (by kernel_rfl) (by kernel_rfl) (by kernel_rfl) (fun _ _ _ h => h) (Or.inl ⟨by rfl, ?_⟩) (by assumption) ?_; rotate_left; (focus ((intro W hSW); (try dsimp only at hSW); (try go_split_ands); go_simp; (try (with_reducible rfl)); done))) | (refine Reg.take 2 (v := undef) rfl (by kernel_rfl) (by kernel_rfl) (by kernel_rfl) (fun _ _ _ h => h) (Or.inr ⟨by rfl, rfl⟩) (by assumption) ?_))
        (try simp only [Act.put, List.setIfInBounds_toArray, List.set_cons_zero, List.set_cons_succ])
        (first | (refine Reg.take 3 (v := ?_) rfl (by kernel_rfl) (by kernel_rfl) (by kernel_rfl) (fun _ _ _ h => h) (Or.inl ⟨by rfl, ?_⟩) (by assumption) ?_; rotate_left; (focus ((intro W hSW); (try dsimp only at hSW); (try go_split_ands); go_simp; (try (with_reducible rfl)); done))) | (refine Reg.take 3 (v := undef) rfl (by kernel_rfl) (by kernel_rfl) (by kernel_rfl) (fun _ _ _ h => h) (Or.inr ⟨by rfl, rfl⟩) (by assumption) ?_))
        (try simp only [Act.put, List.setIfInBounds_toArray, List.set_cons_zero, List.set_cons_succ])
        (first | (refine Reg.take 4 (v := ?_) rfl (by kernel_rfl) (by kernel_rfl) (by kernel_rfl) (fun _ _ _ h => h) (Or.inl ⟨by rfl, ?_⟩) (by assumption) ?_; rotate_left; (focus ((intro W hSW); (try dsimp only at hSW); (try go_split_ands); go_simp; (try (with_reducible rfl)); done))) | (refine Reg.take 4 (v := undef) rfl (by kernel_rfl) (by kernel_rfl) (by kernel_rfl) (fun _ _ _ h => h) (Or.inr ⟨by rfl, rfl⟩) (by assumption) ?_))
        (try simp only [Act.put, List.setIfInBounds_toArray, List.set_cons_zero, List.set_cons_succ])
        (first | (refine Reg.take 5 (v := ?_) rfl (by kernel_rfl) (by kernel_rfl) (by kernel_rfl) (fun _ _ _ h => h) (Or.inl ⟨by rfl, ?_⟩) (by assumption) ?_; rotate_left; (focus ((intro W hSW); (try dsimp only at hSW); (try go_split_ands); go_simp; (try (with_reducible rfl)); done))) | (refine Reg.take 5 (v := undef) rfl (by kernel_rfl) (by kernel_rfl) (by kernel_rfl) (fun _ _ _ h => h) (Or.inr ⟨by rfl, rfl⟩) (by assumption) ?_))
        (try simp only [Act.put, List.setIfInBounds_toArray, List.set_cons_zero, List.set_cons_succ])
        (first | (refine Reg.take 6 (v := ?_) rfl (by kernel_rfl) (by kernel_rfl) (by kernel_rfl) (fun _ _ _ h => h) (Or.inl ⟨by rfl, ?_⟩) (by assumption) ?_; rotate_left; (focus ((intro W hSW); (try dsimp only at hSW); (try go_split_ands); go_simp; (try (with_reducible rfl)); done))) | (refine Reg.take 6 (v := undef) rfl (by kernel_rfl) (by kernel_rfl) (by kernel_rfl) (fun _ _ _ h => h) (Or.inr ⟨by rfl, rfl⟩) (by assumption) ?_))
        (try simp only [Act.put, List.setIfInBounds_toArray, List.set_cons_zero, List.set_cons_succ])
        (first | (refine Reg.take 7 (v := ?_) rfl (by kernel_rfl) (by kernel_rfl) (by kernel_rfl) (fun _ _ _ h => h) (Or.inl ⟨by rfl, ?_⟩) (by assumption) ?_; rotate_left; (focus ((intro W hSW); (try dsimp only at hSW); (try go_split_ands); go_simp; (try (with_reducible rfl)); done))) | (refine Reg.take 7 (v := undef) rfl (by kernel_rfl) (by kernel_rfl) (by kernel_rfl) (fun _ _ _ h => h) (Or.inr ⟨by rfl, rfl⟩) (by assumption) ?_))
        (try simp only [Act.put, List.setIfInBounds_toArray, List.set_cons_zero, List.set_cons_succ])
        (first | (refine Reg.take 8 (v := ?_) rfl (by kernel_rfl) (by kernel_rfl) (by kernel_rfl) (fun _ _ _ h => h) (Or.inl ⟨by rfl, ?_⟩) (by assumption) ?_; rotate_left; (focus ((intro W hSW); (try dsimp only at hSW); (try go_split_ands); go_simp; (try (with_reducible rfl)); done))) | (refine Reg.take 8 (v := undef) rfl (by kernel_rfl) (by kernel_rfl) (by kernel_rfl) (fun _ _ _ h => h) (Or.inr ⟨by rfl, rfl⟩) (by assumption) ?_))
        (try simp only [Act.put, List.setIfInBounds_toArray, List.set_cons_zero, List.set_cons_succ])
        (first | (refine Reg.take 9 (v := ?_) rfl (by kernel_rfl) (by kernel_rfl) (by kernel_rfl) (fun _ _ _ h => h) (Or.inl ⟨by rfl, ?_⟩) (by assumption) ?_; rotate_left; (focus ((intro W hSW); (try dsimp only at hSW); (try go_split_ands); go_simp; (try (with_reducible rfl)); done))) | (refine Reg.take 9 (v := undef) rfl (by kernel_rfl) (by kernel_rfl) (by kernel_rfl) (fun _ _ _ h => h) (Or.inr ⟨by rfl, rfl⟩) (by assumption) ?_))
        (try simp only [Act.put, List.setIfInBounds_toArray, List.set_cons_zero, List.set_cons_succ])
        (first | (refine Reg.take 10 (v := ?_) rfl (by kernel_rfl) (by kernel_rfl) (by kernel_rfl) (fun _ _ _ h => h) (Or.inl ⟨by rfl, ?_⟩) (by assumption) ?_; rotate_left; (focus ((intro W hSW); (try dsimp only at hSW); (try go_split_ands); go_simp; (try (with_reducible rfl)); done))) | (refine Reg.take 10 (v := undef) rfl (by kernel_rfl) (by kernel_rfl) (by kernel_rfl) (fun _ _ _ h => h) (Or.inr ⟨by rfl, rfl⟩) (by assumption) ?_))
        (try simp only [Act.put, List.setIfInBounds_toArray, List.set_cons_zero, List.set_cons_succ])
        (first | (refine Reg.take 11 (v := ?_) rfl (by kernel_rfl) (by kernel_rfl) (by kernel_rfl) (fun _ _ _ h => h) (Or.inl ⟨by rfl, ?_⟩) (by assumption) ?_; rotate_left; (focus ((intro W hSW); (try dsimp only at hSW); (try go_split_ands); go_simp; (try (with_reducible rfl)); done))) | (refine Reg.take 11 (v := undef) rfl (by kernel_rfl) (by kernel_rfl) (by kernel_rfl) (fun _ _ _ h => h) (Or.inr ⟨by rfl, rfl⟩) (by assumption) ?_))
        (try simp only [Act.put, List.setIfInBounds_toArray, List.set_cons_zero, List.set_cons_succ])
        refine wpAnyH_done (by kernel_rfl) ?_ _
        go_wp2_with fail
        go_ret
        refine ⟨?_, hH.out.1.drew⟩
        have : risesB l = false := by
          unfold risesB
          rw [decide_eq_false_iff_not]
          intro hr
          have h1 := rises_lt hr (by have := HJ.out; omega : j < k) HX.out HY.out
          have := of_decide_eq_true e3; omega
        rw [this]; rfl
    · go_wp2_with fail
      go_ret
      refine ⟨?_, hH.out.1⟩
      have : risesB l = true := by
        unfold risesB
        rw [decide_eq_true_eq]
        refine rises_of (fun i x y hx hy => hH.out.2 i x y ?_ hx hy)
        have := (List.getElem?_eq_some_iff.1 hy).1
        have := hlen.out
        omega
      rw [this]; rfl
end Lea
end Go.Proofs.YtcpkgcckjphbfaaGreat
/-
  slices.Sort AND slices.Compact OVER ints: the library's contracts laid at this program, in plain words. (Written by lay.py for one seat.)
-/
namespace Go.Proofs.YtcpkgcckjphbfaaGreat
open Go.Shelf
def Lea.laysSort_ren : Go.Shelf.Ren := ⟨fun | 189 => 77 | 125 => 104 | 257 => 103 | 128 => 121 | 129 => 122 | 294 => 112 | 295 => 113 | 296 => 114 | 297 => 115 | 298 => 116 | 299 => 117 | 216 => 118 | 300 => 119 | 301 => 120 | 328 => 125 | 329 => 126 | 330 => 127 | 331 => 128 | 332 => 129 | 215 => 130 | 343 => 132 | n => n, fun | 28 => 54 | 3 => 3 | 46 => 109 | 0 => 0 | 51 => 167 | 53 => 94 | 4 => 4 | 183 => 161 | 182 => 160 | 131 => 91 | 5 => 5 | 9 => 9 | 218 => 169 | 222 => 173 | 228 => 176 | 229 => 45 | n => n, fun | n => n⟩
theorem Lea.laysSort : Go.Proofs.Lays.n189 Tryz.prog Lea.laysSort_ren := {
  mixed := by kernel_rfl,
  f125 := Tryz.func104.trans (congrArg some (by kernel_rfl)),
  f128 := Tryz.func121.trans (congrArg some (by kernel_rfl)),
  f129 := Tryz.func122.trans (congrArg some (by kernel_rfl)),
  f189 := Tryz.func77.trans (congrArg some (by kernel_rfl)),
  f215 := Tryz.func130.trans (congrArg some (by kernel_rfl)),
  f216 := Tryz.func118.trans (congrArg some (by kernel_rfl)),
  f257 := Tryz.func103.trans (congrArg some (by kernel_rfl)),
  f294 := Tryz.func112.trans (congrArg some (by kernel_rfl)),
  f295 := Tryz.func113.trans (congrArg some (by kernel_rfl)),
  f296 := Tryz.func114.trans (congrArg some (by kernel_rfl)),
  f297 := Tryz.func115.trans (congrArg some (by kernel_rfl)),
  f298 := Tryz.func116.trans (congrArg some (by kernel_rfl)),
  f299 := Tryz.func117.trans (congrArg some (by kernel_rfl)),
  f300 := Tryz.func119.trans (congrArg some (by kernel_rfl)),
  f301 := Tryz.func120.trans (congrArg some (by kernel_rfl)),
  f328 := Tryz.func125.trans (congrArg some (by kernel_rfl)),
  f329 := Tryz.func126.trans (congrArg some (by kernel_rfl)),
  f330 := Tryz.func127.trans (congrArg some (by kernel_rfl)),
  f331 := Tryz.func128.trans (congrArg some (by kernel_rfl)),
  f332 := Tryz.func129.trans (congrArg some (by kernel_rfl)),
  f343 := Tryz.func132.trans (congrArg some (by kernel_rfl)),
  t0 := Tryz.underlying0,
  a0 := Tryz.isAgg0,
  z0 := Tryz.sizeOf0,
  v0 := Tryz.zeroValue0,
  t3 := Tryz.underlying3,
  a3 := Tryz.isAgg3,
  z3 := Tryz.sizeOf3,
  v3 := Tryz.zeroValue3,
  t4 := Tryz.underlying4,
  a4 := Tryz.isAgg4,
  z4 := Tryz.sizeOf4,
  v4 := Tryz.zeroValue4,
  t5 := Tryz.underlying5,
  a5 := Tryz.isAgg5,
  z5 := Tryz.sizeOf5,
  v5 := Tryz.zeroValue5,
  t9 := Tryz.underlying9,
  a9 := Tryz.isAgg9,
  z9 := Tryz.sizeOf9,
  v9 := Tryz.zeroValue9,
  t28 := Tryz.underlying54,
  a28 := Tryz.isAgg54,
  z28 := Tryz.sizeOf54,
  v28 := Tryz.zeroValue54,
  t46 := Tryz.underlying109,
  a46 := Tryz.isAgg109,
  z46 := Tryz.sizeOf109,
  v46 := Tryz.zeroValue109,
  t51 := Tryz.underlying167,
  a51 := Tryz.isAgg167,
  z51 := Tryz.sizeOf167,
  v51 := Tryz.zeroValue167,
  t53 := Tryz.underlying94,
  a53 := Tryz.isAgg94,
  z53 := Tryz.sizeOf94,
  v53 := Tryz.zeroValue94,
  t131 := Tryz.underlying91,
  a131 := Tryz.isAgg91,
  z131 := Tryz.sizeOf91,
  v131 := Tryz.zeroValue91,
  t182 := Tryz.underlying160,
  a182 := Tryz.isAgg160,
  z182 := Tryz.sizeOf160,
  v182 := Tryz.zeroValue160,
  t183 := Tryz.underlying161,
  a183 := Tryz.isAgg161,
  z183 := Tryz.sizeOf161,
  v183 := Tryz.zeroValue161,
  t218 := Tryz.underlying169,
  a218 := Tryz.isAgg169,
  z218 := Tryz.sizeOf169,
  v218 := Tryz.zeroValue169,
  t222 := Tryz.underlying173,
  a222 := Tryz.isAgg173,
  z222 := Tryz.sizeOf173,
  v222 := Tryz.zeroValue173,
  t228 := Tryz.underlying176,
  a228 := Tryz.isAgg176,
  z228 := Tryz.sizeOf176,
  v228 := Tryz.zeroValue176,
  t229 := Tryz.underlying45,
  a229 := Tryz.isAgg45,
  z229 := Tryz.sizeOf45,
  v229 := Tryz.zeroValue45 }
def Lea.laysCompact_ren : Go.Shelf.Ren := ⟨fun | 20 => 78 | n => n, fun | 22 => 54 | 3 => 3 | 4 => 4 | 0 => 0 | n => n, fun | n => n⟩
theorem Lea.laysCompact : Go.Proofs.Lays2.n20 Tryz.prog Lea.laysCompact_ren := {
  mixed := by kernel_rfl,
  f20 := Tryz.func78.trans (congrArg some (by kernel_rfl)),
  t0 := Tryz.underlying0,
  a0 := Tryz.isAgg0,
  z0 := Tryz.sizeOf0,
  v0 := Tryz.zeroValue0,
  t3 := Tryz.underlying3,
  a3 := Tryz.isAgg3,
  z3 := Tryz.sizeOf3,
  v3 := Tryz.zeroValue3,
  t4 := Tryz.underlying4,
  a4 := Tryz.isAgg4,
  z4 := Tryz.sizeOf4,
  v4 := Tryz.zeroValue4,
  t22 := Tryz.underlying54,
  a22 := Tryz.isAgg54,
  z22 := Tryz.sizeOf54,
  v22 := Tryz.zeroValue54,
  i3 := by kernel_rfl }
end Go.Proofs.YtcpkgcckjphbfaaGreat
/-
  A WALK OVER epochsDiffer: the epochs are sorted, alike ones put together, and counted.
-/
namespace Go.Proofs.YtcpkgcckjphbfaaGreat
open Go.RowKit Mem Go.Shelf Go.Sort
namespace Lea

theorem below_put {B n blk off : Nat} {w : World} {enc : Int → Value} {d : Array Int} (hb : B ≤ blk) : Below B w (putRow enc (Sort.ahead w n) blk off d) :=
  ⟨rfl, rfl, rfl, by simp [putRow, mapBlock, Sort.ahead], fun i hi => by simp [putRow, mapBlock, Sort.ahead, Array.getElem?_modify]; intro h; omega⟩
theorem below_grow {B : Nat} {w w' : World} {os : Array Obj} (h : Below B w w') (hb : B ≤ w.heap.size) : Below B w (grow w' os) :=
  ⟨h.os, h.tape, h.output, by simp [grow]; have := h.size; omega, fun i hi => by
    have := h.size
    show (w'.heap ++ os)[i]? = _
    rw [Array.getElem?_append_left (by omega)]
    exact h.block i hi⟩
theorem below_grow' {B : Nat} {w w' : World} {os : Array Obj} (h : Below B w w') (hb : B ≤ w.heap.size) : Below B w (grow w' os) := below_grow h hb

/-- Sorted, and alike ones put together, as many are left as there were just where no two are alike. -/
theorem compact_nodup (l : List Int) (d : Array Int) (hd : d = (l.mergeSort fun x y => decide (x ≤ y)).toArray) : ((Lib.compactUpTo d d.size).length = l.length) ↔ l.Nodup := by
  have hlen : d.size = l.length := by rw [hd]; simp
  have hperm : d.toList.Perm l := by rw [hd]; simpa using List.mergeSort_perm l _
  have hs : d.toList.Pairwise (fun x y => decide (x ≤ y) = true) := by
    rw [hd]
    exact List.pairwise_mergeSort (fun a b c h1 h2 => by simp at *; omega) (fun a b => by simp; omega) l
  unfold Lib.compactUpTo
  rw [List.length_map, ← hlen]
  have h1 : ((List.range d.size).filter (Lib.keeps d)).length = d.size ↔ ∀ j, j < d.size → Lib.keeps d j = true := by
    have := List.length_filter_eq_length_iff (p := Lib.keeps d) (l := List.range d.size)
    rw [List.length_range] at this
    rw [this]
    simp
  rw [h1, ← hperm.nodup_iff]
  constructor
  · intro h
    rw [List.nodup_iff_pairwise_ne, List.pairwise_iff_getElem]
    intro i j hi hj hij
    have hle : ∀ k, i ≤ k → k + 1 < d.toList.length → d.toList[i]! ≤ d.toList[k]! := by
      intro k hik hk
      rcases Nat.eq_or_lt_of_le hik with h2 | h2
      · subst h2; exact Int.le_refl _
      · have := List.pairwise_iff_getElem.1 hs i k hi (by omega) h2
        rw [getElem!_pos _ i hi, getElem!_pos _ k (by omega)]
        simpa using this
    have hjs : j < d.size := by simpa using hj
    have hk := h j hjs
    unfold Lib.keeps at hk
    rw [decide_eq_true_eq] at hk
    have h3 : d[j]! ≠ d[j - 1]! := by
      rcases hk with hk | hk
      · omega
      · exact hk
    have h4 := hle (j - 1) (by omega) (by omega)
    have h5 := List.pairwise_iff_getElem.1 hs (j - 1) j (by omega) hj (by omega)
    rw [decide_eq_true_eq] at h5
    rw [getElem!_pos _ i hi, getElem!_pos _ (j - 1) (by omega)] at h4
    rw [getElem!_pos d j hjs, getElem!_pos d (j - 1) (by omega)] at h3
    simp only [Array.getElem_toList] at h4 h5 ⊢
    omega
  · intro h j hj
    unfold Lib.keeps
    rw [decide_eq_true_eq]
    rcases Nat.eq_zero_or_pos j with h0 | h0
    · exact .inl h0
    · refine .inr ?_
      rw [List.nodup_iff_pairwise_ne, List.pairwise_iff_getElem] at h
      have := h (j - 1) j (by simp; omega) (by simpa using hj) (by omega)
      rw [getElem!_pos d j hj, getElem!_pos d (j - 1) (by omega)]
      simp only [Array.getElem_toList] at this
      exact fun e => this e.symm

theorem run_make_ints (w : World) (n : Nat) (hn : n ≤ 1000000) : (Instr.makeSlice 54 (.int .i64 (n : Int)) (.int .i64 (n : Int))).run Tryz.prog w = .ok (.slice (some ⟨w.heap.size, 0, none⟩) n n) (w.alloc (.cells (madeCells #[.int .i64 0] n) 3)) := by
  obtain ⟨i, hi, hz0, hz1, hz2⟩ := info_parts info_int
  have h := run_make (P := Tryz.prog) w 54 3 i _ Tryz.underlying54 hi hz0 .i64 .i64 (n : Int) (n : Int) (by omega) (by omega) (by rw [hz2]; omega) (by omega)
  rw [hz1] at h
  simpa [Value.cells] using h
/-- The epochs up to k are laid. -/
structure Laid (w0 wr : World) (l : List Lv) (n k : Nat) : Prop where
  below : Below w0.heap.size w0 wr
  cells : ∃ cs, Cells wr w0.heap.size 3 cs ∧ cs.size = n ∧ ∀ j x, j < k → l[j]? = some x → cs[j]? = some (.int .i64 x.epoch)

set_option maxRecDepth 100000 in
set_option maxHeartbeats 3200000 in
theorem differ_any {A : Option Addr} {n c : Nat} {l : List Lv} {w : World} (h : RowL w A n c l) (hn : n ≤ 1000000) :
    Calls Tryz.prog 55 #[.slice A n c] w fun e w' => e = .returned (.bool (differB l)) ∧ Below w.heap.size w w' := by
  have HR := Lib.hid h
  have hbig := h.big
  have hlen := Lib.hid h.len
  clear h
  obtain ⟨o, ho⟩ : ∃ o : Nat, o = 0 := ⟨0, rfl⟩
  have HO := Lib.hid ho
  have hmk : ∀ w : World, (Instr.makeSlice 54 (.int .i64 (n : Int)) (.int .i64 (n : Int))).run Tryz.prog w = .ok (.slice (some ⟨w.heap.size, o, none⟩) n n) (w.alloc (.cells (madeCells #[.int .i64 0] n) 3)) := by
    rw [ho]; exact fun w => run_make_ints w n hn
  have L0 : Hid (Laid w (w.alloc (.cells (madeCells #[.int .i64 0] n) 3)) l n 0) := ⟨(Below.refl _ w).alloc (Nat.le_refl _) _, _, Cells.new w _ _, by simp [madeCells], fun j x hj => by omega⟩
  clear ho
  go_enter Tryz.func55, Tryz.ntmps55
  go_upto_region 2 with fail
  generalize w.alloc (.cells (madeCells #[.int .i64 0] n) 3) = w1 at *
  go_wp2_with fail
  go_loopw [4, 5, 11] (fun _ _ i wr => ∃ k : Nat, i = .int .i64 k ∧ k ≤ n ∧ Hid (Laid w wr l n k)) (fun _ _ i _ => n - (intOf i).toNat)
  case atStart => exact ⟨0, rfl, by omega, L0.out⟩
  case round =>
    obtain ⟨k, rfl, hk, hH⟩ := hrel
    by_cases hlt : k < n
    · obtain ⟨z, hz⟩ := HR.out.get hlt
      obtain ⟨q, p, hA, c0, c1, c2, c3⟩ := RowS.lease_at (HR.out.below hH.out.below) hz
      subst hA
      have hk0 : (0 : Int) ≤ (k : Int) := by omega
      have hkn : (k : Int) < (n : Int) := by omega
      have HZ := Lib.hid hz
      clear hz
      have A1 : Hid (Below wr.heap.size wr (wr.alloc (.cells #[.int .i64 z.key, .int .i64 z.host, .int .i64 z.epoch, .int .i64 z.til] 65))) := (Below.refl _ wr).alloc (Nat.le_refl _) _
      have B1 : Hid (LBox (wr.alloc (.cells #[.int .i64 z.key, .int .i64 z.host, .int .i64 z.epoch, .int .i64 z.til] 65)) wr.heap.size z) := Cells.new _ _ _
      obtain ⟨n0, n1, n2, n3⟩ := LBox.cells B1.out
      go_upto_region 5 with fail
      generalize wr.alloc (.cells #[.int .i64 z.key, .int .i64 z.host, .int .i64 z.epoch, .int .i64 z.til] 65) = w2 at *
      obtain ⟨cs, hcs, hsz, hat⟩ := hH.out.cells
      have C2 := Lib.hid (Cells.below hcs A1.out)
      obtain ⟨u, hu⟩ : ∃ u, w2.cell? ⟨w.heap.size, o + k, none⟩ = some u := by
        rw [HO.out, Nat.zero_add, Cells.cell C2.out]
        exact ⟨_, Array.getElem?_eq_getElem (by omega)⟩
      have hfz : w2.frozen? ⟨w.heap.size, o + k, none⟩ = false := Cells.frozen C2.out _
      have FIN : Hid (Laid w (w2.setCell ⟨w.heap.size, o + k, none⟩ (.int .i64 z.epoch)) l n (k + 1)) := by
        refine ⟨(hH.out.below.trans (A1.out.mono hH.out.below.size)).setCell (p := ⟨w.heap.size, o + k, none⟩) (Nat.le_refl _) _, _, Cells.set_ C2.out _ _, by simpa using hsz, fun j x hj hx => ?_⟩
        rw [HO.out, Nat.zero_add, Array.getElem?_setIfInBounds]
        by_cases h1 : k = j
        · subst h1
          have := HZ.out.symm.trans hx
          injection this with this; subst this
          rw [if_pos rfl, if_pos (by omega)]
        · rw [if_neg h1]; exact hat j x (by omega) hx
      clear hat hcs
      go_wp2_with fail
      go_roundw
      case rel => exact ⟨k + 1, by go_num, by omega, FIN.out⟩
      case measure => simp [intOf]; omega
    · have hkn : k = n := by omega
      subst hkn
      obtain ⟨cs, hcs, hsz, hat⟩ := hH.out.cells
      have LB := Lib.hid hH.out.below
      have hzl : Hid ((l.map Lv.epoch).length = k) := by show _ = _; rw [List.length_map]; exact hlen.out
      have hH0 : Hid (Holds (Value.int .i64) wr w.heap.size o (l.map Lv.epoch).toArray) := by
        show Holds _ _ _ _ _
        intro j hj
        have hj' : j < (l.map Lv.epoch).length := by simpa using hj
        have hjl : j < l.length := by simpa using hj'
        rw [HO.out, Nat.zero_add, Cells.cell hcs]
        refine ⟨?_, Cells.frozen hcs j⟩
        rw [hat j _ (by have := hlen.out; omega) (List.getElem?_eq_getElem hjl), getElem!_pos _ j hj]
        simp
      have hsort := Any.slices_Sort_int laysSort w.heap.size o k (l.map Lv.epoch) wr hH0.out (Cells.lt hcs) (by have := hzl.out; omega)
      rw [hzl.out] at hsort
      have HS : Hid (Calls Tryz.prog 77 #[.slice (some ⟨w.heap.size, o, none⟩) k k] wr fun e w' => e = .returned (.tuple #[]) ∧ ∃ n os, w' = grow (putRow (Value.int .i64) (Sort.ahead wr n) w.heap.size o ((l.map Lv.epoch).mergeSort fun x y => decide (x ≤ y)).toArray) os) := hsort
      clear hsort hat hH
      have LT := Lib.hid (Cells.lt hcs)
      clear hcs
      go_wp2_with fail
      refine HS.out.mono ?_
      rintro e w3 ⟨rfl, m, os, rfl⟩
      obtain ⟨d, hd⟩ : ∃ d, d = ((l.map Lv.epoch).mergeSort fun x y => decide (x ≤ y)).toArray := ⟨_, rfl⟩
      rw [← hd]
      have hds : Hid (d.size = k) := by show _ = _; rw [hd]; simpa using hlen.out
      have LG : Hid (Below w.heap.size w (grow (putRow (Value.int .i64) (Sort.ahead wr m) w.heap.size o d) os)) := LB.out.trans (below_grow (below_put (Nat.le_refl _)) LB.out.size)
      have HD : Hid (Holds (Value.int .i64) (grow (putRow (Value.int .i64) (Sort.ahead wr m) w.heap.size o d) os) w.heap.size o d) := by
        show Holds _ _ _ _ _
        have hp : Holds (Value.int .i64) (putRow (Value.int .i64) (Sort.ahead wr m) w.heap.size o d) w.heap.size o d := holds_putRow _ _ _ _ _ _ (holds_ahead _ _ m _ _ _ hH0.out) (by rw [hds.out]; simpa using hzl.out.symm)
        exact holds_grow _ _ _ _ _ _ (by simp [putRow, mapBlock, Sort.ahead]; exact LT.out) hp
      have HNB := Lib.hid (compact_nodup (l.map Lv.epoch) d hd)
      clear HS hd
      generalize grow (putRow (Value.int .i64) (Sort.ahead wr m) w.heap.size o d) os = w4 at *
      have hcom := Any.slices_Compact_int_arr laysCompact w.heap.size o k d w4 HD.out (by have := hds.out; omega) (by have := hds.out; omega)
      rw [hds.out] at hcom
      obtain ⟨r, hr⟩ : ∃ r, (Lib.compactUpTo d k).length = r := ⟨_, rfl⟩
      rw [hr] at hcom
      have HC : Hid (Calls Tryz.prog 78 #[.slice (some ⟨w.heap.size, o, none⟩) k k] w4 fun e w' => e = .returned (.slice (some ⟨w.heap.size, o, none⟩) r k) ∧ Below w.heap.size w4 w') := by
        show Calls _ _ _ _ _
        exact hcom.mono (fun e w' ⟨h1, q, h2⟩ => ⟨h1, by rw [h2]; exact below_put (Nat.le_refl _)⟩)
      have HRR : Hid (differB l = decide (r = k)) := by
        show _ = _
        have := HNB.out
        rw [hds.out, hr, List.length_map, hlen.out] at this
        exact decide_eq_decide.2 (show Differ l ↔ r = k from this.symm)
      clear hcom hr
      go_wp2_with fail
      refine HC.out.mono ?_
      rintro e w5 ⟨rfl, hb5⟩
      have L5 := Lib.hid (LG.out.trans hb5)
      clear hb5 HC
      by_cases hrk : r = k
      · subst hrk
        go_wp2_with fail
        go_ret
        exact ⟨by rw [HRR.out]; simp, L5.out⟩
      · go_wp2_with fail
        go_ret
        exact ⟨by rw [HRR.out]; simp [hrk]; omega, L5.out⟩
end Lea
end Go.Proofs.YtcpkgcckjphbfaaGreat
