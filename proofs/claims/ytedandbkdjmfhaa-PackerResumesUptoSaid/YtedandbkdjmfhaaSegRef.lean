/-
  WALKS OVER THE DOCUMENT's OWN COMPARISONS: Same, SameRecs, SameFound, of things that are the same.
-/
import Derived.Test.YtedandbkdjmfhaaSegSeg
namespace Go.Proofs.Ytedandbkdjmfhaa
open Go.RowKit Mem
namespace Seg
open Wire

set_option maxRecDepth 100000 in
set_option maxHeartbeats 1600000 in
theorem same_any {r : Rc} {A B : Option Addr} {n c d : Nat} {w : World} (h1 : Row cb w A n c r.data) (h2 : Row cb w B n d r.data) :
    Calls Try.prog 33 #[recV r A n c, recV r B n d] w fun e w' => e = .returned (.bool true) ∧ Below w.heap.size w w' := by
  obtain ⟨⟨X1, L1⟩⟩ : Nonempty (_ ∧ _) := ⟨two_boxes w r r A B n c n d⟩
  have s1 := run_str (h1.below L1)
  have s2 := run_str (h2.below L1)
  have L1 := Lib.hid L1
  clear X1 h1 h2
  unfold recV
  generalize str r.data = x at *
  go_enter Try.func33, Try.ntmps33
  go_wp2_with fail
  go_ret
  exact ⟨rfl, L1.out⟩

set_option maxRecDepth 100000 in
set_option maxHeartbeats 3200000 in
theorem sameRecs_any {A B : Option Addr} {n c d : Nat} {xs ys : List Rv} {w : World} (h1 : RowR w A n c xs) (h2 : RowR w B n d ys) (he : xs.map Rv.r = ys.map Rv.r) :
    Calls Try.prog 16 #[.slice A n c, .slice B n d] w fun e w' => e = .returned (.bool true) ∧ Below w.heap.size w w' := by
  have H1 := Lib.hid h1
  have H2 := Lib.hid h2
  have HE := Lib.hid he
  have hbig := h1.big
  clear h1 h2 he
  have HS := fun (r : Rc) A B n c d w (h1 : Row cb w A n c r.data) (h2 : Row cb w B n d r.data) => Lib.hid (same_any h1 h2)
  unfold recV at HS
  go_enter Try.func16, Try.ntmps16
  go_wp2_with fail
  go_loopw [13] (fun i wr => ∃ k : Nat, i = .int .i64 k ∧ k ≤ n ∧ Hid (Below w.heap.size w wr)) (fun i _ => n - (intOf i).toNat)
  case atStart => exact ⟨0, rfl, by omega, Below.refl _ _⟩
  case round =>
    obtain ⟨k, rfl, hk, hB⟩ := hrel
    by_cases hlt : k < n
    · obtain ⟨x, hx⟩ := H1.out.get hlt
      obtain ⟨y, hy⟩ := H2.out.get hlt
      have hxy : y.r = x.r := by
        have h1 : (xs.map Rv.r)[k]? = some x.r := by rw [List.getElem?_map, hx]; rfl
        rw [HE.out, List.getElem?_map, hy] at h1
        exact Option.some.inj h1
      obtain ⟨b1, o1, rfl, hb1, hc1⟩ := H1.out.seven hx
      obtain ⟨b2, o2, rfl, hb2, hc2⟩ := H2.out.seven hy
      have hS : Hid (∀ W : World, W.heap[b1]? = w.heap[b1]? → W.heap[b2]? = w.heap[b2]? → (W.cell? ⟨b1, o1 + k * 7, none⟩ = some (.int .i64 x.r.kind) ∧ W.cell? ⟨b1, o1 + k * 7 + 1, none⟩ = some (.int .i64 x.r.lba) ∧ W.cell? ⟨b1, o1 + k * 7 + 2, none⟩ = some (.int .i64 x.r.n) ∧ W.cell? ⟨b1, o1 + k * 7 + 3, none⟩ = some (.int .i64 x.r.ver) ∧
          W.cell? ⟨b1, o1 + k * 7 + 4, none⟩ = some (.int .i64 x.r.zone) ∧ W.cell? ⟨b1, o1 + k * 7 + 5, none⟩ = some (.int .i64 x.r.off) ∧ W.cell? ⟨b1, o1 + k * 7 + 6, none⟩ = some (.slice x.D x.r.data.length x.c)) ∧
          (W.cell? ⟨b2, o2 + k * 7, none⟩ = some (.int .i64 x.r.kind) ∧ W.cell? ⟨b2, o2 + k * 7 + 1, none⟩ = some (.int .i64 x.r.lba) ∧ W.cell? ⟨b2, o2 + k * 7 + 2, none⟩ = some (.int .i64 x.r.n) ∧ W.cell? ⟨b2, o2 + k * 7 + 3, none⟩ = some (.int .i64 x.r.ver) ∧
          W.cell? ⟨b2, o2 + k * 7 + 4, none⟩ = some (.int .i64 x.r.zone) ∧ W.cell? ⟨b2, o2 + k * 7 + 5, none⟩ = some (.int .i64 x.r.off) ∧ W.cell? ⟨b2, o2 + k * 7 + 6, none⟩ = some (.slice y.D x.r.data.length y.c))) := fun W e1 e2 => by
        have q := And.intro (hc1 W e1) (hc2 W e2)
        rwa [hxy] at q
      have D1 := Lib.hid ((H1.out.data x (List.mem_of_getElem? hx)).below hB.out)
      have D2 := (H2.out.data y (List.mem_of_getElem? hy)).below hB.out
      rw [hxy] at D2
      have D2 := Lib.hid D2
      have hs := Lib.hid ((HS x.r x.D y.D x.r.data.length x.c y.c wr.drew D1.out.drew D2.out.drew).out)
      have hk0 : (0 : Int) ≤ (k : Int) := by omega
      have hk1 : (k : Int) < (n : Int) := by omega
      clear hc1 hc2 hx hy hxy HS
      go_wp2_with fail
      refine wp_region_held_drew (S := fun W => (W.cell? ⟨b1, o1 + k * 7, none⟩ = some (.int .i64 x.r.kind) ∧ W.cell? ⟨b1, o1 + k * 7 + 1, none⟩ = some (.int .i64 x.r.lba) ∧ W.cell? ⟨b1, o1 + k * 7 + 2, none⟩ = some (.int .i64 x.r.n) ∧ W.cell? ⟨b1, o1 + k * 7 + 3, none⟩ = some (.int .i64 x.r.ver) ∧
          W.cell? ⟨b1, o1 + k * 7 + 4, none⟩ = some (.int .i64 x.r.zone) ∧ W.cell? ⟨b1, o1 + k * 7 + 5, none⟩ = some (.int .i64 x.r.off) ∧ W.cell? ⟨b1, o1 + k * 7 + 6, none⟩ = some (.slice x.D x.r.data.length x.c)) ∧
          (W.cell? ⟨b2, o2 + k * 7, none⟩ = some (.int .i64 x.r.kind) ∧ W.cell? ⟨b2, o2 + k * 7 + 1, none⟩ = some (.int .i64 x.r.lba) ∧ W.cell? ⟨b2, o2 + k * 7 + 2, none⟩ = some (.int .i64 x.r.n) ∧ W.cell? ⟨b2, o2 + k * 7 + 3, none⟩ = some (.int .i64 x.r.ver) ∧
          W.cell? ⟨b2, o2 + k * 7 + 4, none⟩ = some (.int .i64 x.r.zone) ∧ W.cell? ⟨b2, o2 + k * 7 + 5, none⟩ = some (.int .i64 x.r.off) ∧ W.cell? ⟨b2, o2 + k * 7 + 6, none⟩ = some (.slice y.D x.r.data.length y.c))) (by kernel_rfl) (hS.out wr.drew (hB.out.block b1 hb1) (hB.out.block b2 hb2)) (fun hHeld => ?_)
      (first | (refine Reg.take 0 (v := ?_) rfl (by kernel_rfl) (by kernel_rfl) (by kernel_rfl) (fun _ _ _ h => h) (Or.inl ⟨by rfl, ?_⟩) (by assumption) ?_; rotate_left; (focus ((intro W hSW); (try dsimp only at hSW); (try go_split_ands); go_simp; (try (with_reducible rfl)); done))) | (refine Reg.take 0 (v := undef) rfl (by kernel_rfl) (by kernel_rfl) (by kernel_rfl) (fun _ _ _ h => h) (Or.inr ⟨by rfl, rfl⟩) (by assumption) ?_))
      (try simp only [Act.put, List.setIfInBounds_toArray, List.set_cons_zero, List.set_cons_succ])
      (first | (refine Reg.take 1 (v := ?_) rfl (by kernel_rfl) (by kernel_rfl) (by kernel_rfl) (fun _ _ _ h => h) (Or.inl ⟨by rfl, ?_⟩) (by assumption) ?_; rotate_left; (focus ((intro W hSW); (try dsimp only at hSW); (try go_split_ands); go_simp; (try (with_reducible rfl)); done))) | (refine Reg.take 1 (v := undef) rfl (by kernel_rfl) (by kernel_rfl) (by kernel_rfl) (fun _ _ _ h => h) (Or.inr ⟨by rfl, rfl⟩) (by assumption) ?_))
      (try simp only [Act.put, List.setIfInBounds_toArray, List.set_cons_zero, List.set_cons_succ])
      (first | (refine Reg.take 2 (v := ?_) rfl (by kernel_rfl) (by kernel_rfl) (by kernel_rfl) (fun _ _ _ h => h) (Or.inl ⟨by rfl, ?_⟩) (by assumption) ?_; rotate_left; (focus ((intro W hSW); (try dsimp only at hSW); (try go_split_ands); go_simp; (try (with_reducible rfl)); done))) | (refine Reg.take 2 (v := undef) rfl (by kernel_rfl) (by kernel_rfl) (by kernel_rfl) (fun _ _ _ h => h) (Or.inr ⟨by rfl, rfl⟩) (by assumption) ?_))
      (try simp only [Act.put, List.setIfInBounds_toArray, List.set_cons_zero, List.set_cons_succ])
      (first | (refine Reg.take 3 (v := ?_) rfl (by kernel_rfl) (by kernel_rfl) (by kernel_rfl) (fun _ _ _ h => h) (Or.inl ⟨by rfl, ?_⟩) (by assumption) ?_; rotate_left; (focus ((intro W hSW); (try dsimp only at hSW); (try go_split_ands); go_simp; (try (with_reducible rfl)); done))) | (refine Reg.take 3 (v := undef) rfl (by kernel_rfl) (by kernel_rfl) (by kernel_rfl) (fun _ _ _ h => h) (Or.inr ⟨by rfl, rfl⟩) (by assumption) ?_))
      (try simp only [Act.put, List.setIfInBounds_toArray, List.set_cons_zero, List.set_cons_succ])
      (first | (refine Reg.take 4 (v := ?_) rfl (by kernel_rfl) (by kernel_rfl) (by kernel_rfl) (fun _ _ _ h => h) (Or.inl ⟨by rfl, ?_⟩) (by assumption) ?_; rotate_left; (focus ((intro W hSW); (try dsimp only at hSW); (try go_split_ands); go_simp; (try (with_reducible rfl)); done))) | (refine Reg.take 4 (v := undef) rfl (by kernel_rfl) (by kernel_rfl) (by kernel_rfl) (fun _ _ _ h => h) (Or.inr ⟨by rfl, rfl⟩) (by assumption) ?_))
      (try simp only [Act.put, List.setIfInBounds_toArray, List.set_cons_zero, List.set_cons_succ])
      (first | (refine Reg.take 5 (v := ?_) rfl (by kernel_rfl) (by kernel_rfl) (by kernel_rfl) (fun _ _ _ h => h) (Or.inl ⟨by rfl, ?_⟩) (by assumption) ?_; rotate_left; (focus ((intro W hSW); (try dsimp only at hSW); (try go_split_ands); go_simp; (try (with_reducible rfl)); done))) | (refine Reg.take 5 (v := undef) rfl (by kernel_rfl) (by kernel_rfl) (by kernel_rfl) (fun _ _ _ h => h) (Or.inr ⟨by rfl, rfl⟩) (by assumption) ?_))
      (try simp only [Act.put, List.setIfInBounds_toArray, List.set_cons_zero, List.set_cons_succ])
      (first | (refine Reg.take 6 (v := ?_) rfl (by kernel_rfl) (by kernel_rfl) (by kernel_rfl) (fun _ _ _ h => h) (Or.inl ⟨by rfl, ?_⟩) (by assumption) ?_; rotate_left; (focus ((intro W hSW); (try dsimp only at hSW); (try go_split_ands); go_simp; (try (with_reducible rfl)); done))) | (refine Reg.take 6 (v := undef) rfl (by kernel_rfl) (by kernel_rfl) (by kernel_rfl) (fun _ _ _ h => h) (Or.inr ⟨by rfl, rfl⟩) (by assumption) ?_))
      (try simp only [Act.put, List.setIfInBounds_toArray, List.set_cons_zero, List.set_cons_succ])
      (first | (refine Reg.take 7 (v := ?_) rfl (by kernel_rfl) (by kernel_rfl) (by kernel_rfl) (fun _ _ _ h => h) (Or.inl ⟨by rfl, ?_⟩) (by assumption) ?_; rotate_left; (focus ((intro W hSW); (try dsimp only at hSW); (try go_split_ands); go_simp; (try (with_reducible rfl)); done))) | (refine Reg.take 7 (v := undef) rfl (by kernel_rfl) (by kernel_rfl) (by kernel_rfl) (fun _ _ _ h => h) (Or.inr ⟨by rfl, rfl⟩) (by assumption) ?_))
      (try simp only [Act.put, List.setIfInBounds_toArray, List.set_cons_zero, List.set_cons_succ])
      refine Reg.step 8 rfl (by kernel_rfl) (by rfl) (fun K hK => ?_)
      go_simp
      refine hs.out.mono ?_
      rintro e w2 ⟨rfl, hb⟩
      have L2 := Lib.hid (hB.out.trans ((Below.refl _ wr).drew.trans (hb.mono hB.out.size)))
      refine hK.out _ _ (hS.out w2 (L2.out.block b1 hb1) (L2.out.block b2 hb2)) (fun hHeld2 => ?_)
      clear hK K hHeld hb
      (try simp only [Act.put, List.setIfInBounds_toArray, List.set_cons_zero, List.set_cons_succ])
      (first | (refine Reg.take 9 (v := ?_) rfl (by kernel_rfl) (by kernel_rfl) (by kernel_rfl) (fun _ _ _ h => h) (Or.inl ⟨by rfl, ?_⟩) (by assumption) ?_; rotate_left; (focus ((intro W hSW); (try dsimp only at hSW); (try go_split_ands); go_simp; (try (with_reducible rfl)); done))) | (refine Reg.take 9 (v := undef) rfl (by kernel_rfl) (by kernel_rfl) (by kernel_rfl) (fun _ _ _ h => h) (Or.inr ⟨by rfl, rfl⟩) (by assumption) ?_))
      (try simp only [Act.put, List.setIfInBounds_toArray, List.set_cons_zero, List.set_cons_succ])
      refine wpAnyH_done (by kernel_rfl) ?_ _
      clear hHeld2
      go_wp2_with fail
      go_roundw
      case rel => exact ⟨k + 1, by go_num, by omega, L2.out⟩
      case measure => simp [intOf]; omega
    · go_wp2_with fail
      go_ret
      exact ⟨rfl, hB.out⟩

/-- Found, as a value. -/
def fndV (hd : Bool) (h : Hdr) (L At : Value) (u : Int) : Value := .agg #[.bool hd, .int .i64 h.host, .int .i64 h.epoch, .int .i64 h.seq, L, At, .int .i64 u]

end Seg
end Go.Proofs.Ytedandbkdjmfhaa
