/-
  WALKS: a list laid over another one (over), extents of whatever order as a list (stacked).
-/
import Derived.Test.YthahemffeagifaaExtAdd
import Derived.Test.YthahemffeagifaaExtJoin
namespace Go.Proofs.Ythahemffeagifaa
open Go.RowKit Mem
namespace Ext

def overT (l : List Ex) : Int → List Ex → List Ex
  | _, [] => []
  | f, x :: u => clips f x.lba l ++ x :: overT l x.en u
theorem overT_app (l : List Ex) (f : Int) (a : List Ex) (x : Ex) : overT l f (a ++ [x]) = overT l f a ++ (clips (endF f a) x.lba l ++ [x]) := by
  induction a generalizing f with
  | nil => rfl
  | cons y r ih => rw [List.cons_append, overT, ih, overT, endF, List.append_assoc]; rfl
theorem overF_T (l : List Ex) (f : Int) (u : List Ex) : overF l f u = overT l f u ++ clips (endF f u) 1099511627776 l := by
  induction u generalizing f with
  | nil => rfl
  | cons y r ih => rw [overF, ih, overT, endF, List.append_assoc]; rfl
theorem endF_in {f : Int} {u : List Ex} (h : Ok f u) (hf : f ≤ 1099511627776) : f ≤ endF f u ∧ endF f u ≤ 1099511627776 := by
  induction u generalizing f with
  | nil => exact ⟨Int.le_refl _, hf⟩
  | cons x r ih =>
    have h1 := ih h.2.2 (en_le h.1)
    have h2 := en_lt h.1
    have h3 := h.2.1
    exact ⟨by show f ≤ endF x.en r; omega, h1.2⟩
theorem ok_take {f : Int} {u : List Ex} (h : Ok f u) (k : Nat) : Ok f (u.take k) := by
  rw [← List.take_append_drop k u] at h
  exact (ok_split h).1
theorem overT_len {l u : List Ex} (hl : Ok 0 l) (hu : Ok 0 u) (k : Nat) : (overT l 0 (u.take k)).length ≤ l.length + 2 * u.length := by
  have h1 := overE_len hl (ok_take hu k)
  unfold overE at h1
  rw [overF_T, List.length_append] at h1
  have h2 : (u.take k).length ≤ u.length := by rw [List.length_take]; omega
  omega
/-- A row of one's own, as a call gave it. -/
def GaveR (w : World) (r : List Ex) (en : Ending) (w' : World) : Prop := (∃ B m d, en = .returned (.slice B m d) ∧ OwnsL w.heap.size w' (.slice B m d) m r) ∧ Below w.heap.size w w'

set_option maxRecDepth 100000 in
set_option maxHeartbeats 12800000 in
theorem over_any {A B : Option Addr} {n c m d : Nat} {l u : List Ex} {w : World} (hA : RowL w A n c l) (hB : RowL w B m d u) (hl : Ok 0 l) (hu : Ok 0 u) (hn : n ≤ 1000000) (hm : m ≤ 1000000) :
    Calls Try.prog 27 #[.slice A n c, .slice B m d] w (GaveR w (overE l u)) := by
  have HA := Lib.hid hA
  have HB := Lib.hid hB
  have HL := Lib.hid hl
  have HU := Lib.hid hu
  have hbig := hA.big
  have hbig2 := hB.big
  have hlen := Lib.hid hA.len
  have hlen2 := Lib.hid hB.len
  have hwm : IntKind.i64.wrap (2 * (m : Int)) = 2 * (m : Int) := wrap_small (by omega) (by omega)
  have hws : (n : Int) + 2 * (m : Int) = ((n + 2 * m : Nat) : Int) := by omega
  have hww : IntKind.i64.wrap ((n + 2 * m : Nat) : Int) = ((n + 2 * m : Nat) : Int) := wrap_small (by omega) (by omega)
  obtain ⟨S, hS⟩ : ∃ S, n + 2 * m = S := ⟨_, rfl⟩
  rw [hS] at hws hww
  have hmk := fun w => run_make_ext w S (by omega)
  have HMO := Lib.hid (made_own w S (by omega))
  have HMB : Hid (Below w.heap.size w (w.alloc (.cells (madeCells #[.int .i64 0, .int .i64 0, .int .i64 0, .int .i64 0, .int .i64 0] (S * 5)) 28))) := (Below.refl _ w).alloc (Nat.le_refl _) _
  clear hA hB hl hu hS
  go_enter Try.func27, Try.ntmps27
  go_wp2_with fail
  clear hmk hwm hws hww
  go_loopw [5, 6, 8, 18] (fun s f _ i wr => ∃ (k : Nat) (X : Option Addr) (j d2 : Nat) (z : Int), i = .int .i64 k ∧ s = .slice X j d2 ∧ f = .int .i64 z ∧ k ≤ m ∧ Hid (Below w.heap.size w wr ∧ endF 0 (u.take k) = z ∧ OwnsL w.heap.size wr (.slice X j d2) j (overT l 0 (u.take k)))) (fun _ _ _ i _ => m - (intOf i).toNat)
  case atStart => exact ⟨0, some ⟨w.heap.size, 0, none⟩, 0, S, 0, rfl, rfl, rfl, by omega, HMB.out, rfl, HMO.out⟩
  case round =>
    obtain ⟨k, X, j, d2, z, rfl, rfl, rfl, hk, hH⟩ := hrel
    have HZ : Hid (0 ≤ z ∧ z ≤ 1099511627776) := by
      have := endF_in (ok_take HU.out k) (by omega)
      rw [hH.out.2.1] at this
      exact this
    have HJ : Hid (j ≤ 3000000) := by have h1 := hH.out.2.2.2; have h2 := overT_len HL.out HU.out k; have := hlen.out; have := hlen2.out; show _ ≤ _; omega
    by_cases hlt : k < m
    · obtain ⟨x, hx⟩ := HB.out.get hlt
      obtain ⟨b, o, hA, e0, e1, e2, e3, e4⟩ := RowS.ext_at (HB.out.below hH.out.1) hx
      subst hA
      have HMX := Lib.hid (HU.out.at_ hx).1
      have hk0 : (0 : Int) ≤ (k : Int) := by omega
      have hkn : (k : Int) < (m : Int) := by omega
      have HT : Hid (overT l 0 (u.take (k + 1)) = overT l 0 (u.take k) ++ (clips z x.lba l ++ [x])) := by
        show _ = _
        rw [take_snoc hx, overT_app, hH.out.2.1]
      have HEN : Hid (endF 0 (u.take (k + 1)) = x.en) := by show _ = _; rw [take_snoc hx, endF_app]; rfl
      have HLEN : Hid ((overT l 0 (u.take k) ++ clips z x.lba l).length ≤ 3000000) := by
        have h1 := overT_len HL.out HU.out (k + 1)
        rw [HT.out, ← List.append_assoc, List.length_append, List.length_singleton] at h1
        have := hlen.out
        have := hlen2.out
        show _ ≤ _
        omega
      have HADD := fun W (hO : OwnsL w.heap.size W (.slice X j d2) j (overT l 0 (u.take k))) (hW : Below w.heap.size w W) => Lib.hid (addParts_any z x.lba hO hW.size (fun W2 h2 => HA.out.below (hW.trans h2)) HL.out (by have := HJ.out; omega) (by omega) HZ.out.1 HZ.out.2 HMX.out.1 (by have := en_lt HMX.out; have := en_le HMX.out; omega))
      have HE := fun w => Lib.hid (end_any x HMX.out w)
      clear hx
      generalize overT l 0 (u.take k) = OUT at *
      have A1 : Hid (Below wr.heap.size wr (wr.alloc (.cells #[.int .i64 x.lba, .int .i64 x.n, .int .i64 x.ver, .int .i64 x.zone, .int .i64 x.off] 28))) := (Below.refl _ wr).alloc (Nat.le_refl _) _
      have B1 : Hid (LBox (wr.alloc (.cells #[.int .i64 x.lba, .int .i64 x.n, .int .i64 x.ver, .int .i64 x.zone, .int .i64 x.off] 28)) wr.heap.size x) := Cells.new _ _ _
      obtain ⟨n0, n1, n2, n3, n4⟩ := LBox.cells B1.out
      go_upto_region 6 with fail
      generalize wr.alloc (.cells #[.int .i64 x.lba, .int .i64 x.n, .int .i64 x.ver, .int .i64 x.zone, .int .i64 x.off] 28) = w1 at *
      clear e0 e1 e2 e3 e4
      have L1 := Lib.hid (hH.out.1.trans (A1.out.mono hH.out.1.size))
      have L2 := Lib.hid L1.out.drew
      have X2 : Hid (LBox w1.drew wr.heap.size x) := Cells.drew B1.out
      have O2 := Lib.hid (OwnsL.drew (OwnsL.below hH.out.2.2 A1.out))
      have NE2 : Hid ((Value.slice X j d2).ownBlock ≠ some wr.heap.size) := fun e => by have h1 := (OwnsL.lt hH.out.2.2 _ e).2; omega
      refine wp_region_held_drew (S := fun W => W.cell? ⟨wr.heap.size, 0, none⟩ = some (.int .i64 x.lba) ∧ W.cell? ⟨wr.heap.size, 1, none⟩ = some (.int .i64 x.n) ∧ W.cell? ⟨wr.heap.size, 2, none⟩ = some (.int .i64 x.ver) ∧ W.cell? ⟨wr.heap.size, 3, none⟩ = some (.int .i64 x.zone) ∧ W.cell? ⟨wr.heap.size, 4, none⟩ = some (.int .i64 x.off)) (by kernel_rfl) (LBox.cells X2.out) (fun hHeld => ?_)
      generalize w1.drew = w2 at *
      clear n0 n1 n2 n3 n4 A1 B1 L1
      (first | (refine Reg.take 0 (v := ?_) rfl (by kernel_rfl) (by kernel_rfl) (by kernel_rfl) (fun _ _ _ h => h) (Or.inl ⟨by rfl, ?_⟩) (by assumption) ?_; rotate_left; (focus ((intro W hSW); (try dsimp only at hSW); (try go_split_ands); go_simp; (try (with_reducible rfl)); done))) | (refine Reg.take 0 (v := undef) rfl (by kernel_rfl) (by kernel_rfl) (by kernel_rfl) (fun _ _ _ h => h) (Or.inr ⟨by rfl, rfl⟩) (by assumption) ?_))
      (try simp only [Act.put, List.setIfInBounds_toArray, List.set_cons_zero, List.set_cons_succ])
      (first | (refine Reg.take 1 (v := ?_) rfl (by kernel_rfl) (by kernel_rfl) (by kernel_rfl) (fun _ _ _ h => h) (Or.inl ⟨by rfl, ?_⟩) (by assumption) ?_; rotate_left; (focus ((intro W hSW); (try dsimp only at hSW); (try go_split_ands); go_simp; (try (with_reducible rfl)); done))) | (refine Reg.take 1 (v := undef) rfl (by kernel_rfl) (by kernel_rfl) (by kernel_rfl) (fun _ _ _ h => h) (Or.inr ⟨by rfl, rfl⟩) (by assumption) ?_))
      (try simp only [Act.put, List.setIfInBounds_toArray, List.set_cons_zero, List.set_cons_succ])
      (first | (refine Reg.take 2 (v := ?_) rfl (by kernel_rfl) (by kernel_rfl) (by kernel_rfl) (fun _ _ _ h => h) (Or.inl ⟨by rfl, ?_⟩) (by assumption) ?_; rotate_left; (focus ((intro W hSW); (try dsimp only at hSW); (try go_split_ands); go_simp; (try (with_reducible rfl)); done))) | (refine Reg.take 2 (v := undef) rfl (by kernel_rfl) (by kernel_rfl) (by kernel_rfl) (fun _ _ _ h => h) (Or.inr ⟨by rfl, rfl⟩) (by assumption) ?_))
      (try simp only [Act.put, List.setIfInBounds_toArray, List.set_cons_zero, List.set_cons_succ])
      (first | (refine Reg.take 3 (v := ?_) rfl (by kernel_rfl) (by kernel_rfl) (by kernel_rfl) (fun _ _ _ h => h) (Or.inl ⟨by rfl, ?_⟩) (by assumption) ?_; rotate_left; (focus ((intro W hSW); (try dsimp only at hSW); (try go_split_ands); go_simp; (try (with_reducible rfl)); done))) | (refine Reg.take 3 (v := undef) rfl (by kernel_rfl) (by kernel_rfl) (by kernel_rfl) (fun _ _ _ h => h) (Or.inr ⟨by rfl, rfl⟩) (by assumption) ?_))
      (try simp only [Act.put, List.setIfInBounds_toArray, List.set_cons_zero, List.set_cons_succ])
      (first | (refine Reg.take 4 (v := ?_) rfl (by kernel_rfl) (by kernel_rfl) (by kernel_rfl) (fun _ _ _ h => h) (Or.inl ⟨by rfl, ?_⟩) (by assumption) ?_; rotate_left; (focus ((intro W hSW); (try dsimp only at hSW); (try go_split_ands); go_simp; (try (with_reducible rfl)); done))) | (refine Reg.take 4 (v := undef) rfl (by kernel_rfl) (by kernel_rfl) (by kernel_rfl) (fun _ _ _ h => h) (Or.inr ⟨by rfl, rfl⟩) (by assumption) ?_))
      (try simp only [Act.put, List.setIfInBounds_toArray, List.set_cons_zero, List.set_cons_succ])
      (first | (refine Reg.take 6 (v := ?_) rfl (by kernel_rfl) (by kernel_rfl) (by kernel_rfl) (fun _ _ _ h => h) (Or.inl ⟨by rfl, ?_⟩) (by assumption) ?_; rotate_left; (focus ((intro W hSW); (try dsimp only at hSW); (try go_split_ands); go_simp; (try (with_reducible rfl)); done))) | (refine Reg.take 6 (v := undef) rfl (by kernel_rfl) (by kernel_rfl) (by kernel_rfl) (fun _ _ _ h => h) (Or.inr ⟨by rfl, rfl⟩) (by assumption) ?_))
      (try simp only [Act.put, List.setIfInBounds_toArray, List.set_cons_zero, List.set_cons_succ])
      refine Reg.step2 5 7 rfl rfl (by kernel_rfl) (by rfl) (by rfl) (fun K hK => ?_) (fun K hK => ?_)
      · skip
        go_simp
        refine (HADD w2 O2.out L2.out).out.mono ?_
        rintro e' w3 ⟨⟨Y, q, p, rfl, hO, hown⟩, hb, hfr⟩
        have L3 := Lib.hid (L2.out.trans hb)
        have X3 : Hid (LBox w3 wr.heap.size x) := (hfr _ (Cells.lt X2.out) NE2.out).trans X2.out
        have O3 := Lib.hid hO
        have NE3 : Hid ((Value.slice Y q p).ownBlock ≠ some wr.heap.size) := fun h => by
          rcases hown _ h with h1 | h1
          · exact NE2.out h1
          · have := Cells.lt X2.out; omega
        have HQ : Hid (q ≤ 3000000) := by have h1 := O3.out.2; have h2 := HLEN.out; show _ ≤ _; omega
        clear hO hown hb hfr
        refine hK.out _ _ (LBox.cells X3.out) (fun hHeld3 => ?_)
        clear hK K
        (try simp only [Act.put, List.setIfInBounds_toArray, List.set_cons_zero, List.set_cons_succ])
        refine Reg.step 7 rfl (by kernel_rfl) (by rfl) (fun K hK => ?_)
        go_simp
        have A4 : Hid (Below w3.heap.size w3 (w3.alloc (.cells #[.int .i64 x.lba, .int .i64 x.n, .int .i64 x.ver, .int .i64 x.zone, .int .i64 x.off] 28))) := (Below.refl _ _).alloc (Nat.le_refl _) _
        have L4 := Lib.hid (L3.out.trans (A4.out.mono L3.out.size))
        have X4 : Hid (LBox (w3.alloc (.cells #[.int .i64 x.lba, .int .i64 x.n, .int .i64 x.ver, .int .i64 x.zone, .int .i64 x.off] 28)) wr.heap.size x) := Cells.alloc X3.out _
        have O4 := Lib.hid (OwnsL.alloc O3.out (.cells #[.int .i64 x.lba, .int .i64 x.n, .int .i64 x.ver, .int .i64 x.zone, .int .i64 x.off] 28))
        have N4 : Hid (LBox (w3.alloc (.cells #[.int .i64 x.lba, .int .i64 x.n, .int .i64 x.ver, .int .i64 x.zone, .int .i64 x.off] 28)) w3.heap.size x) := Cells.new _ _ _
        have NE4 := NE3
        have NB : Hid ((Value.slice Y q p).ownBlock ≠ some w3.heap.size) := fun e => by have h1 := (OwnsL.lt O3.out _ e).2; omega
        clear A4
        refine hK.out _ _ (LBox.cells X4.out) (fun hHeld4 => ?_)
        clear hK K
        (try simp only [Act.put, List.setIfInBounds_toArray, List.set_cons_zero, List.set_cons_succ])
        generalize w3.alloc (.cells #[.int .i64 x.lba, .int .i64 x.n, .int .i64 x.ver, .int .i64 x.zone, .int .i64 x.off] 28) = w4 at *
        refine Reg.step 8 rfl (by kernel_rfl) (by rfl) (fun K hK => ?_)
        refine wp_append_l1 (.tmp 27) (.tmp 29) rfl rfl w.heap.size (.slice Y q p) q _ rfl O4.out (some ⟨w3.heap.size, 0, none⟩) 1 1 [x] rfl (RowS.one N4.out) (by have := HQ.out; omega) L4.out.size ?_
        intro A' c' w5 h1 h2 h3
        have O5 := Lib.hid h1
        have L5 := Lib.hid (L4.out.trans (below_row O4.out h2 L4.out.size))
        have X5 : Hid (LBox w5 wr.heap.size x) := Cells.grown X4.out h2 (fun e => NE4.out e)
        clear h1 h2 h3
        refine hK.out _ _ (LBox.cells X5.out) (fun hHeld5 => ?_)
        clear hK K
        (try simp only [Act.put, List.setIfInBounds_toArray, List.set_cons_zero, List.set_cons_succ])
        (first | (refine Reg.take 9 (v := ?_) rfl (by kernel_rfl) (by kernel_rfl) (by kernel_rfl) (fun _ _ _ h => h) (Or.inl ⟨by rfl, ?_⟩) (by assumption) ?_; rotate_left; (focus ((intro W hSW); (try dsimp only at hSW); (try go_split_ands); go_simp; (try (with_reducible rfl)); done))) | (refine Reg.take 9 (v := undef) rfl (by kernel_rfl) (by kernel_rfl) (by kernel_rfl) (fun _ _ _ h => h) (Or.inr ⟨by rfl, rfl⟩) (by assumption) ?_))
        (try simp only [Act.put, List.setIfInBounds_toArray, List.set_cons_zero, List.set_cons_succ])
        refine wpAnyH_done (by kernel_rfl) ?_ _
        obtain ⟨n0, n1, n2, n3, n4⟩ := hHeld5
        go_wp2_with (go_at_call 32; refine (HE _).out.mono ?_; rintro e' w9 ⟨rfl, hb⟩; have L9 := Lib.hid (L5.out.trans (hb.mono L5.out.size)); have O9 := Lib.hid (OwnsL.below O5.out hb); clear hb)
        go_roundw
        case rel => exact ⟨k + 1, A', q + 1, c', x.en, by go_num, rfl, rfl, by omega, L9.out, HEN.out, by rw [HT.out, ← List.append_assoc]; exact O9.out⟩
        case measure => simp [intOf]; omega
      · skip
        go_simp
        have A3 : Hid (Below w2.heap.size w2 (w2.alloc (.cells #[.int .i64 x.lba, .int .i64 x.n, .int .i64 x.ver, .int .i64 x.zone, .int .i64 x.off] 28))) := (Below.refl _ _).alloc (Nat.le_refl _) _
        have L3 := Lib.hid (L2.out.trans (A3.out.mono L2.out.size))
        have X3 : Hid (LBox (w2.alloc (.cells #[.int .i64 x.lba, .int .i64 x.n, .int .i64 x.ver, .int .i64 x.zone, .int .i64 x.off] 28)) wr.heap.size x) := Cells.alloc X2.out _
        have O3 := Lib.hid (OwnsL.alloc O2.out (.cells #[.int .i64 x.lba, .int .i64 x.n, .int .i64 x.ver, .int .i64 x.zone, .int .i64 x.off] 28))
        have N3 : Hid (LBox (w2.alloc (.cells #[.int .i64 x.lba, .int .i64 x.n, .int .i64 x.ver, .int .i64 x.zone, .int .i64 x.off] 28)) w2.heap.size x) := Cells.new _ _ _
        have NE3 := NE2
        have NB : Hid ((Value.slice X j d2).ownBlock ≠ some w2.heap.size) := fun e => by have h1 := (OwnsL.lt O2.out _ e).2; omega
        clear A3
        refine hK.out _ _ (LBox.cells X3.out) (fun hHeld3 => ?_)
        clear hK K
        (try simp only [Act.put, List.setIfInBounds_toArray, List.set_cons_zero, List.set_cons_succ])
        generalize w2.alloc (.cells #[.int .i64 x.lba, .int .i64 x.n, .int .i64 x.ver, .int .i64 x.zone, .int .i64 x.off] 28) = w3 at *
        refine Reg.step 5 rfl (by kernel_rfl) (by rfl) (fun K hK => ?_)
        go_simp
        refine (HADD w3 O3.out L3.out).out.mono ?_
        rintro e' w4 ⟨⟨Y, q, p, rfl, hO, hown⟩, hb, hfr⟩
        have L4 := Lib.hid (L3.out.trans hb)
        have X4 : Hid (LBox w4 wr.heap.size x) := (hfr _ (Cells.lt X3.out) NE3.out).trans X3.out
        have O4 := Lib.hid hO
        have NE4 : Hid ((Value.slice Y q p).ownBlock ≠ some wr.heap.size) := fun h => by
          rcases hown _ h with h1 | h1
          · exact NE3.out h1
          · have := Cells.lt X3.out; omega
        have N4 : Hid (LBox w4 w2.heap.size x) := (hfr _ (Cells.lt N3.out) NB.out).trans N3.out
        have HQ : Hid (q ≤ 3000000) := by have h1 := O4.out.2; have h2 := HLEN.out; show _ ≤ _; omega
        clear hO hown hb hfr
        refine hK.out _ _ (LBox.cells X4.out) (fun hHeld4 => ?_)
        clear hK K
        (try simp only [Act.put, List.setIfInBounds_toArray, List.set_cons_zero, List.set_cons_succ])
        refine Reg.step 8 rfl (by kernel_rfl) (by rfl) (fun K hK => ?_)
        refine wp_append_l1 (.tmp 27) (.tmp 29) rfl rfl w.heap.size (.slice Y q p) q _ rfl O4.out (some ⟨w2.heap.size, 0, none⟩) 1 1 [x] rfl (RowS.one N4.out) (by have := HQ.out; omega) L4.out.size ?_
        intro A' c' w5 h1 h2 h3
        have O5 := Lib.hid h1
        have L5 := Lib.hid (L4.out.trans (below_row O4.out h2 L4.out.size))
        have X5 : Hid (LBox w5 wr.heap.size x) := Cells.grown X4.out h2 (fun e => NE4.out e)
        clear h1 h2 h3
        refine hK.out _ _ (LBox.cells X5.out) (fun hHeld5 => ?_)
        clear hK K
        (try simp only [Act.put, List.setIfInBounds_toArray, List.set_cons_zero, List.set_cons_succ])
        (first | (refine Reg.take 9 (v := ?_) rfl (by kernel_rfl) (by kernel_rfl) (by kernel_rfl) (fun _ _ _ h => h) (Or.inl ⟨by rfl, ?_⟩) (by assumption) ?_; rotate_left; (focus ((intro W hSW); (try dsimp only at hSW); (try go_split_ands); go_simp; (try (with_reducible rfl)); done))) | (refine Reg.take 9 (v := undef) rfl (by kernel_rfl) (by kernel_rfl) (by kernel_rfl) (fun _ _ _ h => h) (Or.inr ⟨by rfl, rfl⟩) (by assumption) ?_))
        (try simp only [Act.put, List.setIfInBounds_toArray, List.set_cons_zero, List.set_cons_succ])
        refine wpAnyH_done (by kernel_rfl) ?_ _
        obtain ⟨n0, n1, n2, n3, n4⟩ := hHeld5
        go_wp2_with (go_at_call 32; refine (HE _).out.mono ?_; rintro e' w9 ⟨rfl, hb⟩; have L9 := Lib.hid (L5.out.trans (hb.mono L5.out.size)); have O9 := Lib.hid (OwnsL.below O5.out hb); clear hb)
        go_roundw
        case rel => exact ⟨k + 1, A', q + 1, c', x.en, by go_num, rfl, rfl, by omega, L9.out, HEN.out, by rw [HT.out, ← List.append_assoc]; exact O9.out⟩
        case measure => simp [intOf]; omega
    · have hkn : u.take k = u := List.take_of_length_le (by have := hlen2.out; omega)
      have HK := Lib.hid hkn
      clear hkn
      have HADD := Lib.hid (addParts_any z 1099511627776 hH.out.2.2 hH.out.1.size (fun W2 h2 => HA.out.below (hH.out.1.trans h2)) HL.out (by have := HJ.out; omega) (by omega) HZ.out.1 HZ.out.2 (by omega) (by omega))
      go_wp2_with (go_at_call 30; refine HADD.out.mono ?_; rintro e' w9 ⟨⟨Y, q, p, rfl, hO, -⟩, hb, -⟩; have L9 := Lib.hid (hH.out.1.trans hb); have O9 := Lib.hid hO; clear hO hb)
      go_ret
      refine ⟨⟨_, _, _, rfl, ?_⟩, L9.out⟩
      have h := O9.out
      rw [HK.out] at h
      unfold overE
      rw [overF_T]
      have h2 := hH.out.2.1
      rw [HK.out] at h2
      rw [h2]
      exact h

theorem sq_mono {a b : Nat} (h : a ≤ b) : a * a ≤ b * b := Nat.mul_le_mul h h
/-- A row, as a call gave it. -/
def GaveV (w : World) (r : List Ex) (en : Ending) (w' : World) : Prop := (∃ B m d, en = .returned (.slice B m d) ∧ RowL w' B m d r) ∧ Below w.heap.size w w'

set_option maxRecDepth 100000 in
set_option maxHeartbeats 12800000 in
theorem stacked_any (N : Nat) : ∀ {A : Option Addr} {n c : Nat} {l : List Ex} {w : World}, n ≤ N → RowL w A n c l → (∀ x ∈ l, MayX x) → n ≤ 900 →
    Calls Try.prog 28 #[.slice A n c] w (GaveV w (stackP l)) := by
  induction N with
  | zero =>
    intro A n c l w hN h hm h9
    obtain rfl : n = 0 := by omega
    have hc : Hid (stackP l = l) := stackP_one (by have := h.len; omega)
    have HR := Lib.hid h
    clear h hm
    go_enter Try.func28, Try.ntmps28
    go_wp2_with fail
    go_ret
    exact ⟨⟨_, _, _, rfl, by rw [hc.out]; exact HR.out⟩, Below.refl _ _⟩
  | succ N ih =>
    intro A n c l w hN h hm h9
    have HIH : Hid (∀ (A : Option Addr) (n c : Nat) (l : List Ex) (w : World), n ≤ N → RowL w A n c l → (∀ x ∈ l, MayX x) → n ≤ 900 → Calls Try.prog 28 #[.slice A n c] w (GaveV w (stackP l))) := fun A n c l w => @ih A n c l w
    have HR := Lib.hid h
    have HM := Lib.hid hm
    have hlen := Lib.hid h.len
    have hcap := h.cap
    clear ih h hm
    rcases e1 : decide ((n : Int) ≤ (1 : Int))
    · have h2 : 2 ≤ n := by have := of_decide_eq_false e1; omega
      obtain ⟨q, hq⟩ : ∃ q, q = n / 2 := ⟨_, rfl⟩
      have HQ := Lib.hid hq
      have hqd : (n : Int).tdiv 2 = (q : Int) := by rw [Int.tdiv_eq_ediv_of_nonneg (by omega)]; omega
      have hqd2 : (n : Int) / 2 = (q : Int) := by omega
      have hqw : IntKind.i64.wrap (q : Int) = (q : Int) := wrap_small (by omega) (by omega)
      have hsl1 := fun w => run_headL A n c q (by omega) w
      have hsl2 : ∀ w, (Instr.slice 22 (.slice A n c) (some (.int .i64 (q : Int))) none none).run Try.prog w = .ok (.slice (tailA A c q) (n - q) (c - q)) w := fun w => run_tailL A n c q (by omega) w
      have R1 := Lib.hid (RowS.head HR.out (show q ≤ n by omega))
      have R2 := Lib.hid (RowS.tail HR.out (show q ≤ n by omega))
      obtain ⟨r, hr⟩ : ∃ r, r = n - q := ⟨_, rfl⟩
      rw [← hr] at hsl2 R2
      have hqN : q ≤ N := by omega
      have hrN : r ≤ N := by omega
      have HM1 := Lib.hid (fun x (hx : x ∈ l.take q) => HM.out x (List.mem_of_mem_take hx))
      have HM2 := Lib.hid (fun x (hx : x ∈ l.drop q) => HM.out x (List.mem_of_mem_drop hx))
      have HOK1 := Lib.hid (stack_ok (Nat.le_refl _) HM1.out)
      have HOK2 := Lib.hid (stack_ok (Nat.le_refl _) HM2.out)
      have HL1 : Hid ((l.take q).length ≤ 900 ∧ (l.drop q).length ≤ 900) := by rw [List.length_take, List.length_drop]; exact ⟨by have := hlen.out; omega, by have := hlen.out; omega⟩
      have HST : Hid (stackP l = overE (stackP (l.take q)) (stackP (l.drop q))) := by
        show _ = _
        rw [stackP_many (by have := hlen.out; omega), hlen.out, ← HQ.out]
      have hq9 : q ≤ 900 := by omega
      have hr9 : r ≤ 900 := by omega
      have HC1 := fun W (h : RowL W A q c (l.take q)) => Lib.hid (HIH.out _ _ _ _ _ hqN h HM1.out hq9)
      have HC2 := fun W (h : RowL W (tailA A c q) r (c - q) (l.drop q)) => Lib.hid (HIH.out _ _ _ _ _ hrN h HM2.out hr9)
      clear hq hr HIH
      generalize stackP (l.take q) = P at *
      generalize stackP (l.drop q) = T at *
      generalize tailA A c q = TA at *
      generalize c - q = TC at *
      have L1 : Hid (Below w.heap.size w w) := Below.refl _ _
      have M1 : Hid (Below w.heap.size w w) := Below.refl _ _
      go_enter Try.func28, Try.ntmps28
      go_upto_region 4 with fail
      refine wp_region_held_drew (S := fun _ => True) (by kernel_rfl) trivial (fun hHeld => ?_)
      have L2 := Lib.hid L1.out.drew
      have R12 := Lib.hid (RowS.drew R1.out)
      have R22 := Lib.hid (RowS.drew R2.out)
      generalize w.drew = w2 at *
      clear L1 M1 R1 R2
      (first | (refine Reg.take 0 (v := ?_) rfl (by kernel_rfl) (by kernel_rfl) (by kernel_rfl) (fun _ _ _ h => h) (Or.inl ⟨by rfl, ?_⟩) (by assumption) ?_; rotate_left; (focus ((intro W hSW); (try dsimp only at hSW); (try go_split_ands); go_simp; (try (with_reducible rfl)); done))) | (refine Reg.take 0 (v := undef) rfl (by kernel_rfl) (by kernel_rfl) (by kernel_rfl) (fun _ _ _ h => h) (Or.inr ⟨by rfl, rfl⟩) (by assumption) ?_))
      (try simp only [Act.put, List.setIfInBounds_toArray, List.set_cons_zero, List.set_cons_succ])
      (first | (refine Reg.take 1 (v := ?_) rfl (by kernel_rfl) (by kernel_rfl) (by kernel_rfl) (fun _ _ _ h => h) (Or.inl ⟨by rfl, ?_⟩) (by assumption) ?_; rotate_left; (focus ((intro W hSW); (try dsimp only at hSW); (try go_split_ands); go_simp; (try (with_reducible rfl)); done))) | (refine Reg.take 1 (v := undef) rfl (by kernel_rfl) (by kernel_rfl) (by kernel_rfl) (fun _ _ _ h => h) (Or.inr ⟨by rfl, rfl⟩) (by assumption) ?_))
      (try simp only [Act.put, List.setIfInBounds_toArray, List.set_cons_zero, List.set_cons_succ])
      (first | (refine Reg.take 2 (v := ?_) rfl (by kernel_rfl) (by kernel_rfl) (by kernel_rfl) (fun _ _ _ h => h) (Or.inl ⟨by rfl, ?_⟩) (by assumption) ?_; rotate_left; (focus ((intro W hSW); (try dsimp only at hSW); (try go_split_ands); go_simp; (try (with_reducible rfl)); done))) | (refine Reg.take 2 (v := undef) rfl (by kernel_rfl) (by kernel_rfl) (by kernel_rfl) (fun _ _ _ h => h) (Or.inr ⟨by rfl, rfl⟩) (by assumption) ?_))
      (try simp only [Act.put, List.setIfInBounds_toArray, List.set_cons_zero, List.set_cons_succ])
      (first | (refine Reg.take 4 (v := ?_) rfl (by kernel_rfl) (by kernel_rfl) (by kernel_rfl) (fun _ _ _ h => h) (Or.inl ⟨by rfl, ?_⟩) (by assumption) ?_; rotate_left; (focus ((intro W hSW); (try dsimp only at hSW); (try go_split_ands); go_simp; (try (with_reducible rfl)); done))) | (refine Reg.take 4 (v := undef) rfl (by kernel_rfl) (by kernel_rfl) (by kernel_rfl) (fun _ _ _ h => h) (Or.inr ⟨by rfl, rfl⟩) (by assumption) ?_))
      (try simp only [Act.put, List.setIfInBounds_toArray, List.set_cons_zero, List.set_cons_succ])
      (first | (refine Reg.take 5 (v := ?_) rfl (by kernel_rfl) (by kernel_rfl) (by kernel_rfl) (fun _ _ _ h => h) (Or.inl ⟨by rfl, ?_⟩) (by assumption) ?_; rotate_left; (focus ((intro W hSW); (try dsimp only at hSW); (try go_split_ands); go_simp; (try (with_reducible rfl)); done))) | (refine Reg.take 5 (v := undef) rfl (by kernel_rfl) (by kernel_rfl) (by kernel_rfl) (fun _ _ _ h => h) (Or.inr ⟨by rfl, rfl⟩) (by assumption) ?_))
      (try simp only [Act.put, List.setIfInBounds_toArray, List.set_cons_zero, List.set_cons_succ])
      (first | (refine Reg.take 6 (v := ?_) rfl (by kernel_rfl) (by kernel_rfl) (by kernel_rfl) (fun _ _ _ h => h) (Or.inl ⟨by rfl, ?_⟩) (by assumption) ?_; rotate_left; (focus ((intro W hSW); (try dsimp only at hSW); (try go_split_ands); go_simp; (try (with_reducible rfl)); done))) | (refine Reg.take 6 (v := undef) rfl (by kernel_rfl) (by kernel_rfl) (by kernel_rfl) (fun _ _ _ h => h) (Or.inr ⟨by rfl, rfl⟩) (by assumption) ?_))
      (try simp only [Act.put, List.setIfInBounds_toArray, List.set_cons_zero, List.set_cons_succ])
      refine Reg.step 3 rfl (by kernel_rfl) (by rfl) (fun K hK => ?_)
      go_simp
      refine (HC1 w2 R12.out).out.mono ?_
      rintro e' w3 ⟨⟨B1, b1, c1, rfl, hr⟩, hb⟩
      have L3 := Lib.hid (L2.out.trans (hb.mono L2.out.size))
      have R13 := Lib.hid hr
      have R23 := Lib.hid (R22.out.below hb)
      clear hb hr
      refine hK.out _ _ trivial (fun hHeld3 => ?_)
      clear hK K
      (try simp only [Act.put, List.setIfInBounds_toArray, List.set_cons_zero, List.set_cons_succ])
      refine Reg.step 7 rfl (by kernel_rfl) (by rfl) (fun K hK => ?_)
      go_simp
      refine (HC2 w3 R23.out).out.mono ?_
      rintro e' w4 ⟨⟨B2, b2, c2, rfl, hr⟩, hb⟩
      have L4 := Lib.hid (L3.out.trans (hb.mono L3.out.size))
      have R14 := Lib.hid (R13.out.below hb)
      have R24 := Lib.hid hr
      clear hb hr
      refine hK.out _ _ trivial (fun hHeld4 => ?_)
      clear hK K
      (try simp only [Act.put, List.setIfInBounds_toArray, List.set_cons_zero, List.set_cons_succ])
      refine Reg.step 8 rfl (by kernel_rfl) (by rfl) (fun K hK => ?_)
      go_simp
      refine (over_any R14.out R24.out HOK1.out.1 HOK2.out.1 (by have h1 := R14.out.len; have h2 := HOK1.out.2; have h3 := sq_mono HL1.out.1; omega) (by have h1 := R24.out.len; have h2 := HOK2.out.2; have h3 := sq_mono HL1.out.2; omega)).mono ?_
      rintro e' w5 ⟨⟨B3, b3, c3, rfl, ho⟩, hb⟩
      have L5 := Lib.hid (L4.out.trans (hb.mono L4.out.size))
      have O5 := Lib.hid ho
      clear hb ho
      refine hK.out _ _ trivial (fun hHeld5 => ?_)
      clear hK K
      (try simp only [Act.put, List.setIfInBounds_toArray, List.set_cons_zero, List.set_cons_succ])
      (first | (refine Reg.take 9 (v := ?_) rfl (by kernel_rfl) (by kernel_rfl) (by kernel_rfl) (fun _ _ _ h => h) (Or.inl ⟨by rfl, ?_⟩) (by assumption) ?_; rotate_left; (focus ((intro W hSW); (try dsimp only at hSW); (try go_split_ands); go_simp; (try (with_reducible rfl)); done))) | (refine Reg.take 9 (v := undef) rfl (by kernel_rfl) (by kernel_rfl) (by kernel_rfl) (fun _ _ _ h => h) (Or.inr ⟨by rfl, rfl⟩) (by assumption) ?_))
      (try simp only [Act.put, List.setIfInBounds_toArray, List.set_cons_zero, List.set_cons_succ])
      refine wpAnyH_done (by kernel_rfl) ?_ _
      go_wp2_with fail
      go_ret
      refine ⟨⟨_, _, _, rfl, ?_⟩, L5.out⟩
      rw [HST.out]
      exact OwnsL.row O5.out (by have h0 := O5.out.2; have h1 := overE_len HOK1.out.1 HOK2.out.1; have h2 := HOK1.out.2; have h3 := sq_mono HL1.out.1; have h4 := HOK2.out.2; have h5 := sq_mono HL1.out.2; omega)
    · have h1 : n ≤ 1 := by have := of_decide_eq_true e1; omega
      have hc : Hid (stackP l = l) := stackP_one (by have := hlen.out; omega)
      clear h1
      go_enter Try.func28, Try.ntmps28
      go_wp2_with fail
      go_ret
      exact ⟨⟨_, _, _, rfl, by rw [hc.out]; exact HR.out⟩, Below.refl _ _⟩
end Ext
end Go.Proofs.Ythahemffeagifaa
