/-
  A WALK: Keys.
-/
import Derived.Test.YtfngebikihdogaaCacText
import Derived.Test.YtfngebikihdogaaOwnO
namespace Go.Proofs.Ytfngebikihdogaa
open Go.RowKit Mem Box GM
namespace Cac
/-- A block and its version. -/
abbrev Key := Int × Int
def cellsK (x : Key) : List Value := [.int .i64 x.1, .int .i64 x.2]
theorem fitK : OwnS.Fit cellsK 2 := ⟨by omega, fun _ => rfl, fun x u hu => by simp [cellsK] at hu; rcases hu with rfl | rfl <;> rfl⟩
def keyOf_ (y : Nd) : Key := (y.2.lba, y.2.ver)
abbrev keysL (ns : List Nd) : List Key := ns.map keyOf_
theorem info_key : (Try.prog.info? 34).map (fun i => (i.zero, i.size, i.bytes)) = some (some (.agg #[.int .i64 0, .int .i64 0]), 2, 16) := by kernel_rfl
theorem run_make_key (w : World) (n : Nat) (hn : n ≤ 10000000) : (Instr.makeSlice 40 (.int .i64 0) (.int .i64 (n : Int))).run Try.prog w = .ok (.slice (some ⟨w.heap.size, 0, none⟩) 0 n) (w.alloc (.cells (madeCells #[.int .i64 0, .int .i64 0] (n * 2)) 34)) := by
  obtain ⟨i, hi, hz0, hz1, hz2⟩ := info_parts info_key
  have h := run_make (P := Try.prog) w 40 34 i _ Try.underlying40 hi hz0 .i64 .i64 0 (n : Int) (by omega) (by omega) (by rw [hz2]; omega) (by omega)
  rw [hz1] at h
  exact h
theorem made_own (w : World) (n : Nat) (hn : n ≤ 10000000) : OwnS.Owns cellsK 2 34 w.heap.size (w.alloc (.cells (madeCells #[.int .i64 0, .int .i64 0] (n * 2)) 34)) (.slice (some ⟨w.heap.size, 0, none⟩) 0 n) 0 [] :=
  ⟨World.ownsRow_made w _ n (Nat.le_refl _) (by unfold maxLen; omega) (size_madeCells _ _), rfl⟩
def lenV : Value → Nat
  | .slice _ n _ => n
  | _ => 0
theorem seg_at {w : World} {ns : List Nd} {prev nxt : Option Nat} (h : Seg w prev ns nxt) {j : Nat} {y : Nd} (hy : ns[j]? = some y) : ∃ nw, Node w y.1 y.2 nw (hd (ns.drop (j + 1)) nxt) := by
  have e : ns = ns.take j ++ y :: ns.drop (j + 1) := by
    have := List.getElem?_eq_some_iff.1 hy
    obtain ⟨hlt, rfl⟩ := this
    simp
  rw [e] at h
  exact ⟨_, (seg_append.1 h).2.1⟩
theorem hd_drop {ns : List Nd} {j : Nat} {y : Nd} (hy : ns[j]? = some y) (d : Option Nat) : hd (ns.drop j) d = some y.1 := by
  obtain ⟨hlt, rfl⟩ := List.getElem?_eq_some_iff.1 hy
  rw [List.drop_eq_getElem_cons hlt]; rfl
theorem keys_snoc {ns : List Nd} {j : Nat} {y : Nd} (hy : ns[j]? = some y) : keysL (ns.take (j + 1)) = keysL (ns.take j) ++ [(y.2.lba, y.2.ver)] := by
  unfold keysL
  rw [List.take_add_one, hy, List.map_append]; rfl
theorem key_row (w : World) (a b : Int) : RowS cellsK 2 (w.alloc (.cells #[.int .i64 a, .int .i64 b] 34)) (some ⟨w.heap.size, 0, none⟩) 1 1 [(a, b)] := by
  have hc := Cells.new w #[.int .i64 a, .int .i64 b] 34
  refine ⟨rfl, by omega, by omega, fun _ => ⟨_, _, rfl, hc.lt, fun i y hy j u hu => ?_⟩⟩
  have hi : i = 0 := by have := (List.getElem?_eq_some_iff.1 hy).1; simpa using this
  subst hi
  simp at hy
  subst hy
  rw [show 0 + 0 * 2 + j = j by omega, hc.cell]
  simpa [cellsK] using hu
set_option maxRecDepth 100000 in
set_option maxHeartbeats 6400000 in
theorem keys_any {w : World} {g r : Nat} {m h s : Int} {ns : List Nd} (H : CacheAt w g r m ns h s) (hn : ns.length ≤ 100000) :
    Calls Try.prog 14 #[.pointer (some ⟨g, 0, none⟩)] w fun e w' => (∃ A c, e = .returned (.slice A ns.length c) ∧ RowS cellsK 2 w' A ns.length c (keysL ns)) ∧ Below w.heap.size w w' := by
  have HC := Lib.hid H
  have HA := fun w => Lib.hid (asked_any g w)
  obtain ⟨n, hnl⟩ : ∃ n, n = ns.length := ⟨_, rfl⟩
  have HNL := Lib.hid hnl
  have hlen : ∀ ty, (Builtin.len_ #[49] ty #[.map (some r)]).run Try.prog w = .ok (.int .i64 (n : Int)) w := by rw [hnl]; exact run_at_len H.map
  rw [← hnl] at hn ⊢
  have hmk := fun w => run_make_key w n (by omega)
  have HMO := Lib.hid (made_own w n (by omega))
  have HMB : Hid (Below w.heap.size w (w.alloc (.cells (madeCells #[.int .i64 0, .int .i64 0] (n * 2)) 34))) := (Below.refl _ w).alloc (Nat.le_refl _) _
  have c1 := H.dl.head.cells.2.1
  have C1 := Lib.hid (H.below HMB.out)
  clear H hnl
  go_enter Try.func14, Try.ntmps14
  go_wp2_with fail
  refine (HA _).out.mono ?_
  rintro e w1 ⟨rfl, hw⟩
  obtain rfl := hw.symm
  clear HA
  go_upto_region 3 with fail
  clear hmk hlen c1
  generalize w.alloc (.cells (madeCells #[.int .i64 0, .int .i64 0] (n * 2)) 34) = w1 at *
  obtain ⟨nb, hnb⟩ : ∃ o : Option Addr, ptr (hd ns none) = .pointer o := ⟨_, rfl⟩
  have c2 := C1.out.dl.head.cells.2.2.1
  rw [hnb] at c2
  have HNB := Lib.hid hnb
  clear hnb
  go_wp2_with fail
  go_loopw [3, 4] (fun u k wr => ∃ (j : Nat) (B : Option Addr) (d : Nat), u = .slice B j d ∧ k = ptr (hd (ns.drop j) none) ∧ j ≤ n ∧ Hid (Below w.heap.size w wr ∧ OwnS.Owns cellsK 2 34 w.heap.size wr (.slice B j d) j (keysL (ns.take j)))) (fun u _ _ => n - lenV u)
  case atStart => exact ⟨0, some ⟨w.heap.size, 0, none⟩, n, rfl, HNB.out.symm, by omega, HMB.out, HMO.out⟩
  case round =>
    obtain ⟨j, B, d, rfl, rfl, hj, hH⟩ := hrel
    by_cases hlt : j < n
    · obtain ⟨y, hy⟩ : ∃ y, ns[j]? = some y := ⟨_, List.getElem?_eq_getElem (by have := HNL.out; omega)⟩
      rw [hd_drop hy]
      obtain ⟨nw, hN⟩ := seg_at (HC.out.below hH.out.1).dl.seg hy
      have HN := Lib.hid hN
      have HY := Lib.hid hy
      have LR := Lib.hid hH.out.1.drew
      have OR := Lib.hid (OwnS.Owns.drew hH.out.2)
      have CC : wr.drew.cell? ⟨y.1, 0, none⟩ = some (.int .i64 y.2.lba) ∧ wr.drew.cell? ⟨y.1, 1, none⟩ = some (.int .i64 y.2.ver) := ⟨hN.cells.1, hN.cells.2.1⟩
      rw [show ptr (some y.1) = .pointer (some ⟨y.1, 0, none⟩) from rfl]
      clear hy hN
      go_upto_region 6 with fail
      refine wp_region_held_drew (S := fun W => W.cell? ⟨y.1, 0, none⟩ = some (.int .i64 y.2.lba) ∧ W.cell? ⟨y.1, 1, none⟩ = some (.int .i64 y.2.ver)) (by kernel_rfl) CC (fun hHeld => ?_)
      generalize hwd : wr.drew = w2 at *
      have N2 : Hid (Node w2 y.1 y.2 nw (hd (ns.drop (j + 1)) none)) := by subst hwd; exact HN.out
      clear hwd
      (first | (refine Reg.take 0 (v := ?_) rfl (by kernel_rfl) (by kernel_rfl) (by kernel_rfl) (fun _ _ _ h => h) (Or.inl ⟨by rfl, ?_⟩) (by assumption) ?_; rotate_left; (focus ((intro W hSW); (try dsimp only at hSW); (try go_split_ands); go_simp; (try (with_reducible rfl)); done))) | (refine Reg.take 0 (v := undef) rfl (by kernel_rfl) (by kernel_rfl) (by kernel_rfl) (fun _ _ _ h => h) (Or.inr ⟨by rfl, rfl⟩) (by assumption) ?_))
      (try simp only [Act.put, List.setIfInBounds_toArray, List.set_cons_zero, List.set_cons_succ])
      (first | (refine Reg.take 1 (v := ?_) rfl (by kernel_rfl) (by kernel_rfl) (by kernel_rfl) (fun _ _ _ h => h) (Or.inl ⟨by rfl, ?_⟩) (by assumption) ?_; rotate_left; (focus ((intro W hSW); (try dsimp only at hSW); (try go_split_ands); go_simp; (try (with_reducible rfl)); done))) | (refine Reg.take 1 (v := undef) rfl (by kernel_rfl) (by kernel_rfl) (by kernel_rfl) (fun _ _ _ h => h) (Or.inr ⟨by rfl, rfl⟩) (by assumption) ?_))
      (try simp only [Act.put, List.setIfInBounds_toArray, List.set_cons_zero, List.set_cons_succ])
      (first | (refine Reg.take 2 (v := ?_) rfl (by kernel_rfl) (by kernel_rfl) (by kernel_rfl) (fun _ _ _ h => h) (Or.inl ⟨by rfl, ?_⟩) (by assumption) ?_; rotate_left; (focus ((intro W hSW); (try dsimp only at hSW); (try go_split_ands); go_simp; (try (with_reducible rfl)); done))) | (refine Reg.take 2 (v := undef) rfl (by kernel_rfl) (by kernel_rfl) (by kernel_rfl) (fun _ _ _ h => h) (Or.inr ⟨by rfl, rfl⟩) (by assumption) ?_))
      (try simp only [Act.put, List.setIfInBounds_toArray, List.set_cons_zero, List.set_cons_succ])
      (first | (refine Reg.take 3 (v := ?_) rfl (by kernel_rfl) (by kernel_rfl) (by kernel_rfl) (fun _ _ _ h => h) (Or.inl ⟨by rfl, ?_⟩) (by assumption) ?_; rotate_left; (focus ((intro W hSW); (try dsimp only at hSW); (try go_split_ands); go_simp; (try (with_reducible rfl)); done))) | (refine Reg.take 3 (v := undef) rfl (by kernel_rfl) (by kernel_rfl) (by kernel_rfl) (fun _ _ _ h => h) (Or.inr ⟨by rfl, rfl⟩) (by assumption) ?_))
      (try simp only [Act.put, List.setIfInBounds_toArray, List.set_cons_zero, List.set_cons_succ])
      (first | (refine Reg.take 4 (v := ?_) rfl (by kernel_rfl) (by kernel_rfl) (by kernel_rfl) (fun _ _ _ h => h) (Or.inl ⟨by rfl, ?_⟩) (by assumption) ?_; rotate_left; (focus ((intro W hSW); (try dsimp only at hSW); (try go_split_ands); go_simp; (try (with_reducible rfl)); done))) | (refine Reg.take 4 (v := undef) rfl (by kernel_rfl) (by kernel_rfl) (by kernel_rfl) (fun _ _ _ h => h) (Or.inr ⟨by rfl, rfl⟩) (by assumption) ?_))
      (try simp only [Act.put, List.setIfInBounds_toArray, List.set_cons_zero, List.set_cons_succ])
      (first | (refine Reg.take 5 (v := ?_) rfl (by kernel_rfl) (by kernel_rfl) (by kernel_rfl) (fun _ _ _ h => h) (Or.inl ⟨by rfl, ?_⟩) (by assumption) ?_; rotate_left; (focus ((intro W hSW); (try dsimp only at hSW); (try go_split_ands); go_simp; (try (with_reducible rfl)); done))) | (refine Reg.take 5 (v := undef) rfl (by kernel_rfl) (by kernel_rfl) (by kernel_rfl) (fun _ _ _ h => h) (Or.inr ⟨by rfl, rfl⟩) (by assumption) ?_))
      (try simp only [Act.put, List.setIfInBounds_toArray, List.set_cons_zero, List.set_cons_succ])
      (first | (refine Reg.take 6 (v := ?_) rfl (by kernel_rfl) (by kernel_rfl) (by kernel_rfl) (fun _ _ _ h => h) (Or.inl ⟨by rfl, ?_⟩) (by assumption) ?_; rotate_left; (focus ((intro W hSW); (try dsimp only at hSW); (try go_split_ands); go_simp; (try (with_reducible rfl)); done))) | (refine Reg.take 6 (v := undef) rfl (by kernel_rfl) (by kernel_rfl) (by kernel_rfl) (fun _ _ _ h => h) (Or.inr ⟨by rfl, rfl⟩) (by assumption) ?_))
      (try simp only [Act.put, List.setIfInBounds_toArray, List.set_cons_zero, List.set_cons_succ])
      (first | (refine Reg.take 7 (v := ?_) rfl (by kernel_rfl) (by kernel_rfl) (by kernel_rfl) (fun _ _ _ h => h) (Or.inl ⟨by rfl, ?_⟩) (by assumption) ?_; rotate_left; (focus ((intro W hSW); (try dsimp only at hSW); (try go_split_ands); go_simp; (try (with_reducible rfl)); done))) | (refine Reg.take 7 (v := undef) rfl (by kernel_rfl) (by kernel_rfl) (by kernel_rfl) (fun _ _ _ h => h) (Or.inr ⟨by rfl, rfl⟩) (by assumption) ?_))
      (try simp only [Act.put, List.setIfInBounds_toArray, List.set_cons_zero, List.set_cons_succ])
      (first | (refine Reg.take 8 (v := ?_) rfl (by kernel_rfl) (by kernel_rfl) (by kernel_rfl) (fun _ _ _ h => h) (Or.inl ⟨by rfl, ?_⟩) (by assumption) ?_; rotate_left; (focus ((intro W hSW); (try dsimp only at hSW); (try go_split_ands); go_simp; (try (with_reducible rfl)); done))) | (refine Reg.take 8 (v := undef) rfl (by kernel_rfl) (by kernel_rfl) (by kernel_rfl) (fun _ _ _ h => h) (Or.inr ⟨by rfl, rfl⟩) (by assumption) ?_))
      (try simp only [Act.put, List.setIfInBounds_toArray, List.set_cons_zero, List.set_cons_succ])
      (first | (refine Reg.take 9 (v := ?_) rfl (by kernel_rfl) (by kernel_rfl) (by kernel_rfl) (fun _ _ _ h => h) (Or.inl ⟨by rfl, ?_⟩) (by assumption) ?_; rotate_left; (focus ((intro W hSW); (try dsimp only at hSW); (try go_split_ands); go_simp; (try (with_reducible rfl)); done))) | (refine Reg.take 9 (v := undef) rfl (by kernel_rfl) (by kernel_rfl) (by kernel_rfl) (fun _ _ _ h => h) (Or.inr ⟨by rfl, rfl⟩) (by assumption) ?_))
      (try simp only [Act.put, List.setIfInBounds_toArray, List.set_cons_zero, List.set_cons_succ])
      refine Reg.step 10 rfl (by kernel_rfl) (by rfl) (fun K hK => ?_)
      go_simp
      have L3 : Hid (Below w.heap.size w (w2.alloc (.cells #[.int .i64 y.2.lba, .int .i64 y.2.ver] 34))) := LR.out.alloc LR.out.size _
      have O3 := Lib.hid (OR.out.alloc (.cells #[.int .i64 y.2.lba, .int .i64 y.2.ver] 34))
      have N3 := Lib.hid (N2.out.keep (w' := w2.alloc (.cells #[.int .i64 y.2.lba, .int .i64 y.2.ver] 34)) (heap_alloc_old _ _ N2.out.lt))
      have KR := Lib.hid (key_row w2 y.2.lba y.2.ver)
      refine hK.out _ _ ⟨N3.out.cells.1, N3.out.cells.2.1⟩ (fun hHeldB => ?_)
      clear hK K
      (try simp only [Act.put, List.setIfInBounds_toArray, List.set_cons_zero, List.set_cons_succ])
      obtain ⟨kb, hkb⟩ : ∃ q : Nat, q = w2.heap.size := ⟨_, rfl⟩
      have HKB := Lib.hid hkb
      rw [← hkb] at KR ⊢
      generalize w2.alloc (.cells #[.int .i64 y.2.lba, .int .i64 y.2.ver] 34) = w3 at *
      clear hkb LR OR
      refine Reg.step 11 rfl (by kernel_rfl) (by rfl) (fun K hK => ?_)
      refine OwnS.wp_append1 fitK Try.underlying40 info_key rfl (by omega) (.tmp 23) (.tmp 33) rfl rfl w.heap.size (.slice B j d) j (keysL (ns.take j)) rfl O3.out (some ⟨kb, 0, none⟩) 1 1 [(y.2.lba, y.2.ver)] rfl KR.out (by omega) L3.out.size ?_
      intro A' c' w4 hO4 hG4 hloc
      have L4 := Lib.hid (L3.out.trans (OwnS.below_row O3.out hG4 L3.out.size))
      have N4 : Hid (Node w4 y.1 y.2 nw (hd (ns.drop (j + 1)) none)) := (seg_at (HC.out.below L4.out).dl.seg HY.out).elim fun nw' h' => by
        have h1 := (seg_at HC.out.dl.seg HY.out)
        exact N3.out.keep (hG4.block y.1 N3.out.lt fun e => by
          have h2 := (O3.out.lt y.1 e.symm).1
          have h3 : y.1 < w.heap.size := HC.out.dl.seg.lt y.1 (List.mem_map.2 ⟨y, List.mem_of_getElem? HY.out, rfl⟩)
          omega)
      have O4 := Lib.hid hO4
      refine hK.out _ _ ⟨N4.out.cells.1, N4.out.cells.2.1⟩ (fun hHeldC => ?_)
      clear hK K hO4 hG4 hloc
      (try simp only [Act.put, List.setIfInBounds_toArray, List.set_cons_zero, List.set_cons_succ])
      (first | (refine Reg.take 12 (v := ?_) rfl (by kernel_rfl) (by kernel_rfl) (by kernel_rfl) (fun _ _ _ h => h) (Or.inl ⟨by rfl, ?_⟩) (by assumption) ?_; rotate_left; (focus ((intro W hSW); (try dsimp only at hSW); (try go_split_ands); go_simp; (try (with_reducible rfl)); done))) | (refine Reg.take 12 (v := undef) rfl (by kernel_rfl) (by kernel_rfl) (by kernel_rfl) (fun _ _ _ h => h) (Or.inr ⟨by rfl, rfl⟩) (by assumption) ?_))
      (try simp only [Act.put, List.setIfInBounds_toArray, List.set_cons_zero, List.set_cons_succ])
      refine wpAnyH_done (by kernel_rfl) ?_ _
      clear hHeld hHeldB hHeldC
      obtain ⟨nb2, hnb2⟩ : ∃ o : Option Addr, ptr (hd (ns.drop (j + 1)) none) = .pointer o := ⟨_, rfl⟩
      have c19 := N4.out.cells.2.2.2
      rw [hnb2] at c19
      have HNB2 := Lib.hid hnb2
      have KS := Lib.hid (keys_snoc HY.out)
      clear hnb2
      go_wp2_with fail
      go_roundw
      case rel => exact ⟨j + 1, A', c', rfl, HNB2.out.symm, by omega, L4.out, by rw [KS.out]; exact O4.out⟩
      case measure => simp [lenV]; omega
    · obtain rfl : j = n := by omega
      have hd0 : hd (ns.drop j) none = none := by rw [List.drop_eq_nil_of_le (by have := HNL.out; omega)]; rfl
      rw [hd0, show ptr none = .pointer none from rfl]
      go_wp2_with fail
      go_ret
      have h2 := hH.out.2
      rw [List.take_of_length_le (by have := HNL.out; omega)] at h2
      exact ⟨⟨B, d, rfl, h2.row fitK (by omega)⟩, hH.out.1⟩
end Cac
end Go.Proofs.Ytfngebikihdogaa
