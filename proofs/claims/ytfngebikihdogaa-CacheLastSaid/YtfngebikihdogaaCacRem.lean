/-
  WALKS: one is removed; the cache that is asked; a new one; the counts.
-/
import Derived.Test.YtfngebikihdogaaCacFirst
namespace Go.Proofs.Ytfngebikihdogaa
open Go.RowKit Mem Box GM
namespace Cac

theorem nodup_blk {w : World} {g r : Nat} {m h s : Int} {ns : List Nd} (H : CacheAt w g r m ns h s) : r ∉ g :: blk ns := H.map.not_dl H.dl
theorem mov_foot {w w' : World} {g r : Nat} {ns : List Nd} (h : Mov (g :: blk ns) w w') : Mov (foot g r ns) w w' := h.mono fun x hx => .inl (by
  rcases List.mem_cons.1 hx with e | hx
  · rw [e]; exact List.mem_cons_self
  · exact List.mem_cons_of_mem _ (List.mem_cons_of_mem _ hx))
set_option maxRecDepth 100000 in
set_option maxHeartbeats 3200000 in
theorem remove_any {w : World} {g r : Nat} {m h s : Int} {a b : List Nd} {p : Nat} {x : Kv} (H : CacheAt w g r m (a ++ (p, x) :: b) h s) :
    Calls Try.prog 18 #[.pointer (some ⟨g, 0, none⟩), .pointer (some ⟨p, 0, none⟩)] w fun e w' => e = .returned (.tuple #[]) ∧ CacheAt w' g r m (a ++ b) h s ∧ Node w' p x (lst a none) (hd b none) ∧ Mov (foot g r (a ++ b)) w w' ∧ w'.heap.size = w.heap.size := by
  have HO := Lib.hid (out_any H.dl)
  have HC := Lib.hid H
  clear H
  go_enter Try.func18, Try.ntmps18
  go_wp2_with fail
  refine HO.out.mono ?_
  rintro e w1 ⟨rfl, hD, hN, hV, hz⟩
  have hr := nodup_blk HC.out
  have A1 : Hid (At w1.drew r (a ++ (p, x) :: b)) := HC.out.map.keep (hV.block r HC.out.map.lt fun hm => hr (by
    rcases List.mem_cons.1 hm with e | hm
    · exact e ▸ List.mem_cons_self
    · refine List.mem_cons_of_mem _ ?_
      simp only [blk, List.map_append, List.map_cons, List.mem_append, List.mem_cons] at hm ⊢
      exact hm.imp id .inr))
  have D1 := Lib.hid hD.drew
  have N1 : Hid (Node w1.drew p x (lst a none) (hd b none)) := hN
  have V1 : Hid (Mov (foot g r (a ++ b)) w w1.drew) := (mov_foot hV).trans (Mov.drew (foot g r (a ++ b)) w1) (fun x hx => .inl hx)
  have Z1 : Hid (w1.drew.heap.size = w.heap.size) := hz
  have CC : w1.drew.cell? ⟨g, 1, none⟩ = some (.map (some r)) ∧ w1.drew.cell? ⟨p, 0, none⟩ = some (.int .i64 x.lba) := ⟨D1.out.head.cells.2.1, N1.out.cells.1⟩
  clear hD hN hV hz hr HO
  go_upto_region 1 with fail
  refine wp_region_held_drew (S := fun W => W.cell? ⟨g, 1, none⟩ = some (.map (some r)) ∧ W.cell? ⟨p, 0, none⟩ = some (.int .i64 x.lba)) (by kernel_rfl) CC (fun hHeld => ?_)
  generalize w1.drew = w2 at *
  (first | (refine Reg.take 0 (v := ?_) rfl (by kernel_rfl) (by kernel_rfl) (by kernel_rfl) (fun _ _ _ h => h) (Or.inl ⟨by rfl, ?_⟩) (by assumption) ?_; rotate_left; (focus ((intro W hSW); (try dsimp only at hSW); (try go_split_ands); go_simp; (try (with_reducible rfl)); done))) | (refine Reg.take 0 (v := undef) rfl (by kernel_rfl) (by kernel_rfl) (by kernel_rfl) (fun _ _ _ h => h) (Or.inr ⟨by rfl, rfl⟩) (by assumption) ?_))
  (try simp only [Act.put, List.setIfInBounds_toArray, List.set_cons_zero, List.set_cons_succ])
  (first | (refine Reg.take 1 (v := ?_) rfl (by kernel_rfl) (by kernel_rfl) (by kernel_rfl) (fun _ _ _ h => h) (Or.inl ⟨by rfl, ?_⟩) (by assumption) ?_; rotate_left; (focus ((intro W hSW); (try dsimp only at hSW); (try go_split_ands); go_simp; (try (with_reducible rfl)); done))) | (refine Reg.take 1 (v := undef) rfl (by kernel_rfl) (by kernel_rfl) (by kernel_rfl) (fun _ _ _ h => h) (Or.inr ⟨by rfl, rfl⟩) (by assumption) ?_))
  (try simp only [Act.put, List.setIfInBounds_toArray, List.set_cons_zero, List.set_cons_succ])
  (first | (refine Reg.take 2 (v := ?_) rfl (by kernel_rfl) (by kernel_rfl) (by kernel_rfl) (fun _ _ _ h => h) (Or.inl ⟨by rfl, ?_⟩) (by assumption) ?_; rotate_left; (focus ((intro W hSW); (try dsimp only at hSW); (try go_split_ands); go_simp; (try (with_reducible rfl)); done))) | (refine Reg.take 2 (v := undef) rfl (by kernel_rfl) (by kernel_rfl) (by kernel_rfl) (fun _ _ _ h => h) (Or.inr ⟨by rfl, rfl⟩) (by assumption) ?_))
  (try simp only [Act.put, List.setIfInBounds_toArray, List.set_cons_zero, List.set_cons_succ])
  (first | (refine Reg.take 3 (v := ?_) rfl (by kernel_rfl) (by kernel_rfl) (by kernel_rfl) (fun _ _ _ h => h) (Or.inl ⟨by rfl, ?_⟩) (by assumption) ?_; rotate_left; (focus ((intro W hSW); (try dsimp only at hSW); (try go_split_ands); go_simp; (try (with_reducible rfl)); done))) | (refine Reg.take 3 (v := undef) rfl (by kernel_rfl) (by kernel_rfl) (by kernel_rfl) (fun _ _ _ h => h) (Or.inr ⟨by rfl, rfl⟩) (by assumption) ?_))
  (try simp only [Act.put, List.setIfInBounds_toArray, List.set_cons_zero, List.set_cons_succ])
  (first | (refine Reg.take 4 (v := ?_) rfl (by kernel_rfl) (by kernel_rfl) (by kernel_rfl) (fun _ _ _ h => h) (Or.inl ⟨by rfl, ?_⟩) (by assumption) ?_; rotate_left; (focus ((intro W hSW); (try dsimp only at hSW); (try go_split_ands); go_simp; (try (with_reducible rfl)); done))) | (refine Reg.take 4 (v := undef) rfl (by kernel_rfl) (by kernel_rfl) (by kernel_rfl) (fun _ _ _ h => h) (Or.inr ⟨by rfl, rfl⟩) (by assumption) ?_))
  (try simp only [Act.put, List.setIfInBounds_toArray, List.set_cons_zero, List.set_cons_succ])
  (first | (refine Reg.take 5 (v := ?_) rfl (by kernel_rfl) (by kernel_rfl) (by kernel_rfl) (fun _ _ _ h => h) (Or.inl ⟨by rfl, ?_⟩) (by assumption) ?_; rotate_left; (focus ((intro W hSW); (try dsimp only at hSW); (try go_split_ands); go_simp; (try (with_reducible rfl)); done))) | (refine Reg.take 5 (v := undef) rfl (by kernel_rfl) (by kernel_rfl) (by kernel_rfl) (fun _ _ _ h => h) (Or.inr ⟨by rfl, rfl⟩) (by assumption) ?_))
  (try simp only [Act.put, List.setIfInBounds_toArray, List.set_cons_zero, List.set_cons_succ])
  (first | (refine Reg.take 6 (v := ?_) rfl (by kernel_rfl) (by kernel_rfl) (by kernel_rfl) (fun _ _ _ h => h) (Or.inl ⟨by rfl, ?_⟩) (by assumption) ?_; rotate_left; (focus ((intro W hSW); (try dsimp only at hSW); (try go_split_ands); go_simp; (try (with_reducible rfl)); done))) | (refine Reg.take 6 (v := undef) rfl (by kernel_rfl) (by kernel_rfl) (by kernel_rfl) (fun _ _ _ h => h) (Or.inr ⟨by rfl, rfl⟩) (by assumption) ?_))
  (try simp only [Act.put, List.setIfInBounds_toArray, List.set_cons_zero, List.set_cons_succ])
  (first | (refine Reg.take 7 (v := ?_) rfl (by kernel_rfl) (by kernel_rfl) (by kernel_rfl) (fun _ _ _ h => h) (Or.inl ⟨by rfl, ?_⟩) (by assumption) ?_; rotate_left; (focus ((intro W hSW); (try dsimp only at hSW); (try go_split_ands); go_simp; (try (with_reducible rfl)); done))) | (refine Reg.take 7 (v := undef) rfl (by kernel_rfl) (by kernel_rfl) (by kernel_rfl) (fun _ _ _ h => h) (Or.inr ⟨by rfl, rfl⟩) (by assumption) ?_))
  (try simp only [Act.put, List.setIfInBounds_toArray, List.set_cons_zero, List.set_cons_succ])
  refine Reg.step 8 rfl (by kernel_rfl) (by rfl) (fun K hK => ?_)
  obtain ⟨w3, hrun, hA3, hV3, hz3⟩ := run_at_del (y := (p, x)) A1.out HC.out.keys 0
  go_simp
  have hr2 : r ∉ g :: blk (a ++ b) := fun hm => nodup_blk HC.out (by
    rcases List.mem_cons.1 hm with e | hm
    · exact e ▸ List.mem_cons_self
    · refine List.mem_cons_of_mem _ ?_
      simp only [blk, List.map_append, List.map_cons, List.mem_append, List.mem_cons] at hm ⊢
      exact hm.imp id .inr)
  have hrp : p ≠ r := by
    obtain ⟨cs, hc, -⟩ := N1.out
    exact A1.out.ne hc
  have D3 := Lib.hid (D1.out.keep fun q hq => hV3.block q (D1.out.lt q hq) (by simp only [List.mem_singleton]; rintro rfl; exact hr2 hq))
  have N3 := Lib.hid (N1.out.keep (hV3.block p N1.out.lt (by simpa using hrp)))
  have V3 := Lib.hid (V1.out.trans hV3 (by simp [foot]))
  refine hK.out _ _ ⟨D3.out.head.cells.2.1, N3.out.cells.1⟩ (fun hHeldB => ?_)
  clear hK K
  (try simp only [Act.put, List.setIfInBounds_toArray, List.set_cons_zero, List.set_cons_succ])
  refine wpAnyH_done (by kernel_rfl) ?_ _
  clear hHeld hHeldB
  go_wp2_with fail
  refine bodyPost_end (results_none rfl _ _ _) rfl ?_
  exact ⟨rfl, ⟨D3.out, hA3, (lbas_parts HC.out.keys).2.2⟩, N3.out, V3.out, hz3.trans Z1.out⟩

set_option maxRecDepth 100000 in
set_option maxHeartbeats 800000 in
theorem asked_any (g : Nat) (w : World) : Calls Try.prog 17 #[.pointer (some ⟨g, 0, none⟩)] w fun e w' => e = .returned (.pointer (some ⟨g, 0, none⟩)) ∧ w' = w := by
  go_enter Try.func17, Try.ntmps17
  go_wp2_with fail
  go_ret
  exact ⟨rfl, rfl⟩
theorem At.made (w : World) : At (w.alloc (.map #[] 0)) w.heap.size [] := ⟨[], FMap.made _ _ _ w, fun _ => rfl, rfl⟩
set_option maxRecDepth 100000 in
set_option maxHeartbeats 1600000 in
theorem new_any (m : Int) (w : World) : Calls Try.prog 8 #[.int .i64 m] w fun e w' => e = .returned (.pointer (some ⟨w.heap.size + 1, 0, none⟩)) ∧ CacheAt w' (w.heap.size + 1) w.heap.size (max m 0) [] 0 0 ∧ Below w.heap.size w w' := by
  have hmm := @run_makeMap Try.prog
  have hmx := @run_max2
  have A1 : Hid (At ((w.alloc (.map #[] 0)).alloc (.cells (headC w.heap.size (max m 0) none none 0 0) 57)) w.heap.size []) := (At.made w).keep (heap_alloc_old _ _ (by simp))
  have hsz : (w.alloc (.map #[] 0)).heap.size = w.heap.size + 1 := by simp
  have H1 : Hid (Head ((w.alloc (.map #[] 0)).alloc (.cells (headC w.heap.size (max m 0) none none 0 0) 57)) (w.heap.size + 1) w.heap.size (max m 0) none none 0 0) := by
    have := Cells.new (w.alloc (.map #[] 0)) (headC w.heap.size (max m 0) none none 0 0) 57
    rw [hsz] at this
    exact this
  have V1 : Hid (Below w.heap.size w ((w.alloc (.map #[] 0)).alloc (.cells (headC w.heap.size (max m 0) none none 0 0) 57))) := ((Below.refl _ w).alloc (Nat.le_refl _) _).alloc (by simp) _
  go_enter Try.func8, Try.ntmps8
  go_wp2_with fail
  go_ret
  exact ⟨rfl, ⟨⟨H1.out, trivial, by simp [blk]⟩, A1.out, by simp [lbas]⟩, V1.out⟩
end Cac
end Go.Proofs.Ytfngebikihdogaa
