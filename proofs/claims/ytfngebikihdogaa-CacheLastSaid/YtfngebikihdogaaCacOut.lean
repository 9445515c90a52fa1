/-
  WALKS: one is taken out of those that hang together; one is put ahead of them all. (Written by gen_cacout.py.)
-/
import Derived.Test.YtfngebikihdogaaCacMem
namespace Go.Proofs.Ytfngebikihdogaa
open Go.RowKit Mem Box GM
namespace Cac
theorem Mid.drew {w : World} {g r : Nat} {m h s : Int} {a b : List Nd} {p : Nat} {x : Kv} (H : Mid w g r m a p x b h s) : Mid w.drew g r m a p x b h s := ⟨H.head, H.ahead.keep fun _ _ => rfl, H.one.keep rfl, H.behind.keep fun _ _ => rfl⟩
theorem DL.drew {w : World} {g r : Nat} {m h s : Int} {ns : List Nd} (H : DL w g r m ns h s) : DL w.drew g r m ns h s := H.keep fun _ _ => rfl
/-- What taking one out gives. -/
def Out (w w' : World) (g r : Nat) (m h s : Int) (a : List Nd) (p : Nat) (x : Kv) (b : List Nd) : Prop := DL w' g r m (a ++ b) h s ∧ Node w' p x (lst a none) (hd b none) ∧ Mov (g :: blk (a ++ b)) w w' ∧ w'.heap.size = w.heap.size
set_option maxRecDepth 100000 in
set_option maxHeartbeats 3200000 in
theorem out_nil {w : World} {g r : Nat} {m h s : Int} {p : Nat} {x : Kv} {b : List Nd} (H : DL w g r m ((p, x) :: b) h s) :
    Calls Try.prog 21 #[.pointer (some ⟨g, 0, none⟩), .pointer (some ⟨p, 0, none⟩)] w fun e w' => e = .returned (.tuple #[]) ∧ Out w w' g r m h s [] p x b := by
  have HN : Hid (blk ([] ++ (p, x) :: b)).Nodup := H.nod
  have M1 := Lib.hid (mid_nil H)
  have V1 : Hid (Mov [g] w (w.setCell ⟨g, 2, none⟩ (ptr (hd b none)))) := Mov.set1 w (by simp) 2 _
  have Z1 : Hid ((w.setCell ⟨g, 2, none⟩ (ptr (hd b none))).heap.size = w.heap.size) := World.size_setCell _ _ _
  obtain ⟨c0, c1, c18, c19⟩ := H.seg.1.cells
  replace c18 : w.cell? ⟨p, 18, none⟩ = some (.pointer none) := c18
  have f2 := H.head.frozen 2
  have e2 := H.head.cells.2.2.1
  obtain ⟨nb, hnb⟩ : ∃ o : Option Addr, ptr (hd b none) = .pointer o := ⟨_, rfl⟩
  rw [hnb] at M1 V1 Z1 c19
  clear H c0 c1 hnb
  go_enter Try.func21, Try.ntmps21
  go_upto_region 3 with fail
  generalize w.setCell ⟨g, 2, none⟩ (.pointer nb) = w1 at *
  clear c18 c19 f2 e2
  rcases b with _ | ⟨z, b⟩
  · have O2 := Lib.hid (M1.out.nil HN.out)
    obtain ⟨c0, c1, c18, c19⟩ := M1.out.one.cells
    replace c18 : w1.cell? ⟨p, 18, none⟩ = some (.pointer none) := c18
    replace c19 : w1.cell? ⟨p, 19, none⟩ = some (.pointer none) := c19
    have f3 := M1.out.head.frozen 3
    have e3 := M1.out.head.cells.2.2.2.1
    have V2 := Lib.hid (V1.out.trans (Mov.set1 w1 (S := [g]) (q := g) (by simp) 3 (ptr none)) (by simp))
    clear c0 c1
    go_wp2_with fail
    refine bodyPost_end (results_none rfl _ _ _) rfl ?_
    exact ⟨rfl, by rw [List.append_nil]; exact O2.out.1, O2.out.2, V2.out.mono (by simp), (World.size_setCell _ _ _).trans Z1.out⟩
  · have O2 := Lib.hid (M1.out.drew.cons HN.out)
    obtain ⟨c0, c1, c18, c19⟩ := M1.out.one.cells
    replace c18 : w1.cell? ⟨p, 18, none⟩ = some (.pointer none) := c18
    replace c19 : w1.cell? ⟨p, 19, none⟩ = some (.pointer (some ⟨z.1, 0, none⟩)) := c19
    have fz := (M1.out.behind.1).frozen.1
    have ez : w1.drew.cell? ⟨z.1, 18, none⟩ = some (ptr (some p)) := (M1.out.behind.1).cells.2.2.1
    have V2 := Lib.hid ((V1.out.mono (T := g :: blk ([] ++ z :: b)) (by simp [blk])).trans ((Mov.drew [z.1] w1).trans (Mov.set1 w1.drew (S := [z.1]) (q := z.1) (by simp) 18 (ptr none)) (by simp)) (by simp [blk]))
    clear c0 c1
    go_upto_region 5 with fail
    have CC : w1.drew.cell? ⟨p, 18, none⟩ = some (.pointer none) ∧ w1.drew.cell? ⟨p, 19, none⟩ = some (.pointer (some ⟨z.1, 0, none⟩)) := ⟨c18, c19⟩
    have NZ : z.1 ≠ p := fun e => (nodup_parts HN.out).2.2.2.1 (by rw [← e]; simp [blk])
    have O3 : Hid (DL (w1.drew.setCell ⟨z.1, 18, none⟩ (ptr none)) g r m ([] ++ z :: b) h s ∧ Node (w1.drew.setCell ⟨z.1, 18, none⟩ (ptr none)) p x none (some z.1)) := O2
    have V3 : Hid (Mov (g :: blk ([] ++ z :: b)) w (w1.drew.setCell ⟨z.1, 18, none⟩ (ptr none))) := V2
    have Z3 : Hid ((w1.drew.setCell ⟨z.1, 18, none⟩ (ptr none)).heap.size = w.heap.size) := by show _ = _; rw [World.size_setCell]; exact Z1.out
    have fz3 : w1.drew.frozen? ⟨z.1, 18, none⟩ = false := fz
    clear O2 V2 fz c18 c19
    refine wp_region_held_drew (S := fun W => W.cell? ⟨p, 18, none⟩ = some (.pointer none) ∧ W.cell? ⟨p, 19, none⟩ = some (.pointer (some ⟨z.1, 0, none⟩))) (by kernel_rfl) CC (fun hHeld => ?_)
    generalize w1.drew = w2 at *
    (first | (refine Reg.take 0 (v := ?_) rfl (by kernel_rfl) (by kernel_rfl) (by kernel_rfl) (fun _ _ _ h => h) (Or.inl ⟨by rfl, ?_⟩) (by assumption) ?_; rotate_left; (focus ((intro W hSW); (try dsimp only at hSW); (try go_split_ands); go_simp; (try (with_reducible rfl)); done))) | (refine Reg.take 0 (v := undef) rfl (by kernel_rfl) (by kernel_rfl) (by kernel_rfl) (fun _ _ _ h => h) (Or.inr ⟨by rfl, rfl⟩) (by assumption) ?_))
    (try simp only [Act.put, List.setIfInBounds_toArray, List.set_cons_zero, List.set_cons_succ])
    (first | (refine Reg.take 1 (v := ?_) rfl (by kernel_rfl) (by kernel_rfl) (by kernel_rfl) (fun _ _ _ h => h) (Or.inl ⟨by rfl, ?_⟩) (by assumption) ?_; rotate_left; (focus ((intro W hSW); (try dsimp only at hSW); (try go_split_ands); go_simp; (try (with_reducible rfl)); done))) | (refine Reg.take 1 (v := undef) rfl (by kernel_rfl) (by kernel_rfl) (by kernel_rfl) (fun _ _ _ h => h) (Or.inr ⟨by rfl, rfl⟩) (by assumption) ?_))
    (try simp only [Act.put, List.setIfInBounds_toArray, List.set_cons_zero, List.set_cons_succ])
    (first | (refine Reg.take 2 (v := ?_) rfl (by kernel_rfl) (by kernel_rfl) (by kernel_rfl) (fun _ _ _ h => h) (Or.inl ⟨by rfl, ?_⟩) (by assumption) ?_; rotate_left; (focus ((intro W hSW); (try dsimp only at hSW); (try go_split_ands); go_simp; (try (with_reducible rfl)); done))) | (refine Reg.take 2 (v := undef) rfl (by kernel_rfl) (by kernel_rfl) (by kernel_rfl) (fun _ _ _ h => h) (Or.inr ⟨by rfl, rfl⟩) (by assumption) ?_))
    (try simp only [Act.put, List.setIfInBounds_toArray, List.set_cons_zero, List.set_cons_succ])
    (first | (refine Reg.take 3 (v := ?_) rfl (by kernel_rfl) (by kernel_rfl) (by kernel_rfl) (fun _ _ _ h => h) (Or.inl ⟨by rfl, ?_⟩) (by assumption) ?_; rotate_left; (focus ((intro W hSW); (try dsimp only at hSW); (try go_split_ands); go_simp; (try (with_reducible rfl)); done))) | (refine Reg.take 3 (v := undef) rfl (by kernel_rfl) (by kernel_rfl) (by kernel_rfl) (fun _ _ _ h => h) (Or.inr ⟨by rfl, rfl⟩) (by assumption) ?_))
    (try simp only [Act.put, List.setIfInBounds_toArray, List.set_cons_zero, List.set_cons_succ])
    (first | (refine Reg.take 4 (v := ?_) rfl (by kernel_rfl) (by kernel_rfl) (by kernel_rfl) (fun _ _ _ h => h) (Or.inl ⟨by rfl, ?_⟩) (by assumption) ?_; rotate_left; (focus ((intro W hSW); (try dsimp only at hSW); (try go_split_ands); go_simp; (try (with_reducible rfl)); done))) | (refine Reg.take 4 (v := undef) rfl (by kernel_rfl) (by kernel_rfl) (by kernel_rfl) (fun _ _ _ h => h) (Or.inr ⟨by rfl, rfl⟩) (by assumption) ?_))
    (try simp only [Act.put, List.setIfInBounds_toArray, List.set_cons_zero, List.set_cons_succ])
    (first | (refine Reg.take 5 (v := ?_) rfl (by kernel_rfl) (by kernel_rfl) (by kernel_rfl) (fun _ _ _ h => h) (Or.inl ⟨by rfl, ?_⟩) (by assumption) ?_; rotate_left; (focus ((intro W hSW); (try dsimp only at hSW); (try go_split_ands); go_simp; (try (with_reducible rfl)); done))) | (refine Reg.take 5 (v := undef) rfl (by kernel_rfl) (by kernel_rfl) (by kernel_rfl) (fun _ _ _ h => h) (Or.inr ⟨by rfl, rfl⟩) (by assumption) ?_))
    (try simp only [Act.put, List.setIfInBounds_toArray, List.set_cons_zero, List.set_cons_succ])
    (first | (refine Reg.take 6 (v := ?_) rfl (by kernel_rfl) (by kernel_rfl) (by kernel_rfl) (fun _ _ _ h => h) (Or.inl ⟨by rfl, ?_⟩) (by assumption) ?_; rotate_left; (focus ((intro W hSW); (try dsimp only at hSW); (try go_split_ands); go_simp; (try (with_reducible rfl)); done))) | (refine Reg.take 6 (v := undef) rfl (by kernel_rfl) (by kernel_rfl) (by kernel_rfl) (fun _ _ _ h => h) (Or.inr ⟨by rfl, rfl⟩) (by assumption) ?_))
    (try simp only [Act.put, List.setIfInBounds_toArray, List.set_cons_zero, List.set_cons_succ])
    (first | (refine Reg.take 7 (v := ?_) rfl (by kernel_rfl) (by kernel_rfl) (by kernel_rfl) (fun _ _ _ h => h) (Or.inl ⟨by rfl, ?_⟩) (by assumption) ?_; rotate_left; (focus ((intro W hSW); (try dsimp only at hSW); (try go_split_ands); go_simp; (try (with_reducible rfl)); done))) | (refine Reg.take 7 (v := undef) rfl (by kernel_rfl) (by kernel_rfl) (by kernel_rfl) (fun _ _ _ h => h) (Or.inr ⟨by rfl, rfl⟩) (by assumption) ?_))
    (try simp only [Act.put, List.setIfInBounds_toArray, List.set_cons_zero, List.set_cons_succ])
    (first | (refine Reg.take 8 (v := ?_) rfl (by kernel_rfl) (by kernel_rfl) (by kernel_rfl) (fun _ _ _ h => h) (Or.inl ⟨by rfl, ?_⟩) (by assumption) ?_; rotate_left; (focus ((intro W hSW); (try dsimp only at hSW); (try go_split_ands); go_simp; (try (with_reducible rfl)); done))) | (refine Reg.take 8 (v := undef) rfl (by kernel_rfl) (by kernel_rfl) (by kernel_rfl) (fun _ _ _ h => h) (Or.inr ⟨by rfl, rfl⟩) (by assumption) ?_))
    (try simp only [Act.put, List.setIfInBounds_toArray, List.set_cons_zero, List.set_cons_succ])
    (first | (refine Reg.take 9 (v := ?_) rfl (by kernel_rfl) (by kernel_rfl) (by kernel_rfl) (fun _ _ _ h => h) (Or.inl ⟨by rfl, ?_⟩) (by assumption) ?_; rotate_left; (focus ((intro W hSW); (try dsimp only at hSW); (try go_split_ands); go_simp; (try (with_reducible rfl)); done))) | (refine Reg.take 9 (v := undef) rfl (by kernel_rfl) (by kernel_rfl) (by kernel_rfl) (fun _ _ _ h => h) (Or.inr ⟨by rfl, rfl⟩) (by assumption) ?_))
    (try simp only [Act.put, List.setIfInBounds_toArray, List.set_cons_zero, List.set_cons_succ])
    refine Reg.step 10 rfl (by kernel_rfl) (by rfl) (fun K hK => ?_)
    go_simp
    have CD : (w2.setCell ⟨z.1, 18, none⟩ (ptr none)).cell? ⟨p, 18, none⟩ = some (.pointer none) ∧ (w2.setCell ⟨z.1, 18, none⟩ (ptr none)).cell? ⟨p, 19, none⟩ = some (.pointer (some ⟨z.1, 0, none⟩)) := ⟨(World.cell?_of_block (Below.heap_setCell _ _ _ _ (Ne.symm NZ))).trans CC.1, (World.cell?_of_block (Below.heap_setCell _ _ _ _ (Ne.symm NZ))).trans CC.2⟩
    refine hK.out _ _ CD (fun hHeldB => ?_)
    clear hK K
    (try simp only [Act.put, List.setIfInBounds_toArray, List.set_cons_zero, List.set_cons_succ])
    refine wpAnyH_done (by kernel_rfl) ?_ _
    clear hHeld hHeldB
    go_wp2_with fail
    refine bodyPost_end (results_none rfl _ _ _) rfl ?_
    exact ⟨rfl, O3.out.1, O3.out.2, V3.out, Z3.out⟩

set_option maxRecDepth 100000 in
set_option maxHeartbeats 3200000 in
theorem out_snoc {w : World} {g r : Nat} {m h s : Int} {u : List Nd} {q : Nd} {p : Nat} {x : Kv} {b : List Nd} (H : DL w g r m ((u ++ [q]) ++ (p, x) :: b) h s) :
    Calls Try.prog 21 #[.pointer (some ⟨g, 0, none⟩), .pointer (some ⟨p, 0, none⟩)] w fun e w' => e = .returned (.tuple #[]) ∧ Out w w' g r m h s (u ++ [q]) p x b := by
  have HN := Lib.hid H.nod
  have M1 : Hid (Mid (w.drew.setCell ⟨q.1, 19, none⟩ (ptr (hd b none))) g r m (u ++ [q]) p x b h s) := mid_snoc H.drew
  have V1 : Hid (Mov [q.1] w (w.drew.setCell ⟨q.1, 19, none⟩ (ptr (hd b none)))) := (Mov.drew [q.1] w).trans (Mov.set1 w.drew (S := [q.1]) (by simp) 19 _) (by simp)
  have Z1 : Hid ((w.drew.setCell ⟨q.1, 19, none⟩ (ptr (hd b none))).heap.size = w.heap.size) := World.size_setCell _ _ _
  obtain ⟨c0, c1, c18, c19⟩ := (Seg.node H.seg).cells
  rw [lst_snoc] at c18
  replace c18 : w.cell? ⟨p, 18, none⟩ = some (.pointer (some ⟨q.1, 0, none⟩)) := c18
  have fq : w.drew.frozen? ⟨q.1, 19, none⟩ = false := (Seg.node (a := u) (x := q.2) (p := q.1) (b := (p, x) :: b) (by have h1 := H.drew.seg; rw [List.append_assoc] at h1; exact h1)).frozen.2
  have eq : w.drew.cell? ⟨q.1, 19, none⟩ = some (ptr (some p)) := (Seg.node (a := u) (x := q.2) (p := q.1) (b := (p, x) :: b) (by have h1 := H.drew.seg; rw [List.append_assoc] at h1; exact h1)).cells.2.2.2
  have CC : w.drew.cell? ⟨p, 18, none⟩ = some (.pointer (some ⟨q.1, 0, none⟩)) ∧ w.drew.cell? ⟨p, 19, none⟩ = some (ptr (hd b none)) := ⟨c18, c19⟩
  have NZ : q.1 ≠ p := fun e => (nodup_parts HN.out).2.2.1 (by rw [← e]; simp [blk])
  obtain ⟨nb, hnb⟩ : ∃ o : Option Addr, ptr (hd b none) = .pointer o := ⟨_, rfl⟩
  rw [hnb] at M1 V1 Z1 c19 CC
  clear H c0 c1 hnb
  go_enter Try.func21, Try.ntmps21
  go_upto_region 2 with fail
  clear c18 c19
  refine wp_region_held_drew (S := fun W => W.cell? ⟨p, 18, none⟩ = some (.pointer (some ⟨q.1, 0, none⟩)) ∧ W.cell? ⟨p, 19, none⟩ = some (.pointer nb)) (by kernel_rfl) CC (fun hHeld => ?_)
  generalize w.drew = w0 at *
  (first | (refine Reg.take 0 (v := ?_) rfl (by kernel_rfl) (by kernel_rfl) (by kernel_rfl) (fun _ _ _ h => h) (Or.inl ⟨by rfl, ?_⟩) (by assumption) ?_; rotate_left; (focus ((intro W hSW); (try dsimp only at hSW); (try go_split_ands); go_simp; (try (with_reducible rfl)); done))) | (refine Reg.take 0 (v := undef) rfl (by kernel_rfl) (by kernel_rfl) (by kernel_rfl) (fun _ _ _ h => h) (Or.inr ⟨by rfl, rfl⟩) (by assumption) ?_))
  (try simp only [Act.put, List.setIfInBounds_toArray, List.set_cons_zero, List.set_cons_succ])
  (first | (refine Reg.take 1 (v := ?_) rfl (by kernel_rfl) (by kernel_rfl) (by kernel_rfl) (fun _ _ _ h => h) (Or.inl ⟨by rfl, ?_⟩) (by assumption) ?_; rotate_left; (focus ((intro W hSW); (try dsimp only at hSW); (try go_split_ands); go_simp; (try (with_reducible rfl)); done))) | (refine Reg.take 1 (v := undef) rfl (by kernel_rfl) (by kernel_rfl) (by kernel_rfl) (fun _ _ _ h => h) (Or.inr ⟨by rfl, rfl⟩) (by assumption) ?_))
  (try simp only [Act.put, List.setIfInBounds_toArray, List.set_cons_zero, List.set_cons_succ])
  (first | (refine Reg.take 2 (v := ?_) rfl (by kernel_rfl) (by kernel_rfl) (by kernel_rfl) (fun _ _ _ h => h) (Or.inl ⟨by rfl, ?_⟩) (by assumption) ?_; rotate_left; (focus ((intro W hSW); (try dsimp only at hSW); (try go_split_ands); go_simp; (try (with_reducible rfl)); done))) | (refine Reg.take 2 (v := undef) rfl (by kernel_rfl) (by kernel_rfl) (by kernel_rfl) (fun _ _ _ h => h) (Or.inr ⟨by rfl, rfl⟩) (by assumption) ?_))
  (try simp only [Act.put, List.setIfInBounds_toArray, List.set_cons_zero, List.set_cons_succ])
  (first | (refine Reg.take 3 (v := ?_) rfl (by kernel_rfl) (by kernel_rfl) (by kernel_rfl) (fun _ _ _ h => h) (Or.inl ⟨by rfl, ?_⟩) (by assumption) ?_; rotate_left; (focus ((intro W hSW); (try dsimp only at hSW); (try go_split_ands); go_simp; (try (with_reducible rfl)); done))) | (refine Reg.take 3 (v := undef) rfl (by kernel_rfl) (by kernel_rfl) (by kernel_rfl) (fun _ _ _ h => h) (Or.inr ⟨by rfl, rfl⟩) (by assumption) ?_))
  (try simp only [Act.put, List.setIfInBounds_toArray, List.set_cons_zero, List.set_cons_succ])
  (first | (refine Reg.take 4 (v := ?_) rfl (by kernel_rfl) (by kernel_rfl) (by kernel_rfl) (fun _ _ _ h => h) (Or.inl ⟨by rfl, ?_⟩) (by assumption) ?_; rotate_left; (focus ((intro W hSW); (try dsimp only at hSW); (try go_split_ands); go_simp; (try (with_reducible rfl)); done))) | (refine Reg.take 4 (v := undef) rfl (by kernel_rfl) (by kernel_rfl) (by kernel_rfl) (fun _ _ _ h => h) (Or.inr ⟨by rfl, rfl⟩) (by assumption) ?_))
  (try simp only [Act.put, List.setIfInBounds_toArray, List.set_cons_zero, List.set_cons_succ])
  (first | (refine Reg.take 5 (v := ?_) rfl (by kernel_rfl) (by kernel_rfl) (by kernel_rfl) (fun _ _ _ h => h) (Or.inl ⟨by rfl, ?_⟩) (by assumption) ?_; rotate_left; (focus ((intro W hSW); (try dsimp only at hSW); (try go_split_ands); go_simp; (try (with_reducible rfl)); done))) | (refine Reg.take 5 (v := undef) rfl (by kernel_rfl) (by kernel_rfl) (by kernel_rfl) (fun _ _ _ h => h) (Or.inr ⟨by rfl, rfl⟩) (by assumption) ?_))
  (try simp only [Act.put, List.setIfInBounds_toArray, List.set_cons_zero, List.set_cons_succ])
  (first | (refine Reg.take 6 (v := ?_) rfl (by kernel_rfl) (by kernel_rfl) (by kernel_rfl) (fun _ _ _ h => h) (Or.inl ⟨by rfl, ?_⟩) (by assumption) ?_; rotate_left; (focus ((intro W hSW); (try dsimp only at hSW); (try go_split_ands); go_simp; (try (with_reducible rfl)); done))) | (refine Reg.take 6 (v := undef) rfl (by kernel_rfl) (by kernel_rfl) (by kernel_rfl) (fun _ _ _ h => h) (Or.inr ⟨by rfl, rfl⟩) (by assumption) ?_))
  (try simp only [Act.put, List.setIfInBounds_toArray, List.set_cons_zero, List.set_cons_succ])
  (first | (refine Reg.take 7 (v := ?_) rfl (by kernel_rfl) (by kernel_rfl) (by kernel_rfl) (fun _ _ _ h => h) (Or.inl ⟨by rfl, ?_⟩) (by assumption) ?_; rotate_left; (focus ((intro W hSW); (try dsimp only at hSW); (try go_split_ands); go_simp; (try (with_reducible rfl)); done))) | (refine Reg.take 7 (v := undef) rfl (by kernel_rfl) (by kernel_rfl) (by kernel_rfl) (fun _ _ _ h => h) (Or.inr ⟨by rfl, rfl⟩) (by assumption) ?_))
  (try simp only [Act.put, List.setIfInBounds_toArray, List.set_cons_zero, List.set_cons_succ])
  (first | (refine Reg.take 8 (v := ?_) rfl (by kernel_rfl) (by kernel_rfl) (by kernel_rfl) (fun _ _ _ h => h) (Or.inl ⟨by rfl, ?_⟩) (by assumption) ?_; rotate_left; (focus ((intro W hSW); (try dsimp only at hSW); (try go_split_ands); go_simp; (try (with_reducible rfl)); done))) | (refine Reg.take 8 (v := undef) rfl (by kernel_rfl) (by kernel_rfl) (by kernel_rfl) (fun _ _ _ h => h) (Or.inr ⟨by rfl, rfl⟩) (by assumption) ?_))
  (try simp only [Act.put, List.setIfInBounds_toArray, List.set_cons_zero, List.set_cons_succ])
  (first | (refine Reg.take 9 (v := ?_) rfl (by kernel_rfl) (by kernel_rfl) (by kernel_rfl) (fun _ _ _ h => h) (Or.inl ⟨by rfl, ?_⟩) (by assumption) ?_; rotate_left; (focus ((intro W hSW); (try dsimp only at hSW); (try go_split_ands); go_simp; (try (with_reducible rfl)); done))) | (refine Reg.take 9 (v := undef) rfl (by kernel_rfl) (by kernel_rfl) (by kernel_rfl) (fun _ _ _ h => h) (Or.inr ⟨by rfl, rfl⟩) (by assumption) ?_))
  (try simp only [Act.put, List.setIfInBounds_toArray, List.set_cons_zero, List.set_cons_succ])
  refine Reg.step 10 rfl (by kernel_rfl) (by rfl) (fun K hK => ?_)
  go_simp
  have CD : (w0.setCell ⟨q.1, 19, none⟩ (.pointer nb)).cell? ⟨p, 18, none⟩ = some (.pointer (some ⟨q.1, 0, none⟩)) ∧ (w0.setCell ⟨q.1, 19, none⟩ (.pointer nb)).cell? ⟨p, 19, none⟩ = some (.pointer nb) := ⟨(World.cell?_of_block (Below.heap_setCell _ _ _ _ (Ne.symm NZ))).trans CC.1, (World.cell?_of_block (Below.heap_setCell _ _ _ _ (Ne.symm NZ))).trans CC.2⟩
  refine hK.out _ _ CD (fun hHeldB => ?_)
  clear hK K
  (try simp only [Act.put, List.setIfInBounds_toArray, List.set_cons_zero, List.set_cons_succ])
  refine wpAnyH_done (by kernel_rfl) ?_ _
  clear hHeld hHeldB CD CC fq eq
  generalize w0.setCell ⟨q.1, 19, none⟩ (.pointer nb) = w1 at *
  rcases b with _ | ⟨z, b⟩
  · have O2 := Lib.hid (M1.out.nil HN.out)
    rw [lst_snoc] at O2
    obtain ⟨c0, c1, c18, c19⟩ := M1.out.one.cells
    rw [lst_snoc] at c18
    replace c18 : w1.cell? ⟨p, 18, none⟩ = some (.pointer (some ⟨q.1, 0, none⟩)) := c18
    replace c19 : w1.cell? ⟨p, 19, none⟩ = some (.pointer none) := c19
    have f3 := M1.out.head.frozen 3
    have e3 := M1.out.head.cells.2.2.2.1
    have V2 := Lib.hid ((V1.out.mono (T := [g, q.1]) (by simp)).trans (Mov.set1 w1 (S := [g]) (q := g) (by simp) 3 (ptr (some q.1))) (by simp))
    clear c0 c1
    go_wp2_with fail
    refine bodyPost_end (results_none rfl _ _ _) rfl ?_
    exact ⟨rfl, by rw [List.append_nil]; exact O2.out.1, by rw [lst_snoc]; exact O2.out.2, V2.out.mono (by simp [blk]), (World.size_setCell _ _ _).trans Z1.out⟩
  · have O2 := Lib.hid (M1.out.drew.cons HN.out)
    rw [lst_snoc] at O2
    obtain ⟨c0, c1, c18, c19⟩ := M1.out.one.cells
    rw [lst_snoc] at c18
    replace c18 : w1.cell? ⟨p, 18, none⟩ = some (.pointer (some ⟨q.1, 0, none⟩)) := c18
    replace c19 : w1.cell? ⟨p, 19, none⟩ = some (.pointer (some ⟨z.1, 0, none⟩)) := c19
    have fz := (M1.out.behind.1).frozen.1
    have ez : w1.drew.cell? ⟨z.1, 18, none⟩ = some (ptr (some p)) := (M1.out.behind.1).cells.2.2.1
    have V2 := Lib.hid ((V1.out.mono (T := g :: blk ((u ++ [q]) ++ z :: b)) (by simp [blk])).trans ((Mov.drew [z.1] w1).trans (Mov.set1 w1.drew (S := [z.1]) (q := z.1) (by simp) 18 (ptr (some q.1))) (by simp)) (by simp [blk]))
    clear c0 c1
    go_upto_region 5 with fail
    have CC : w1.drew.cell? ⟨p, 18, none⟩ = some (.pointer (some ⟨q.1, 0, none⟩)) ∧ w1.drew.cell? ⟨p, 19, none⟩ = some (.pointer (some ⟨z.1, 0, none⟩)) := ⟨c18, c19⟩
    have NZ : z.1 ≠ p := fun e => (nodup_parts HN.out).2.2.2.1 (by rw [← e]; simp [blk])
    have O3 : Hid (DL (w1.drew.setCell ⟨z.1, 18, none⟩ (ptr (some q.1))) g r m ((u ++ [q]) ++ z :: b) h s ∧ Node (w1.drew.setCell ⟨z.1, 18, none⟩ (ptr (some q.1))) p x (some q.1) (some z.1)) := O2
    have V3 : Hid (Mov (g :: blk ((u ++ [q]) ++ z :: b)) w (w1.drew.setCell ⟨z.1, 18, none⟩ (ptr (some q.1)))) := V2
    have Z3 : Hid ((w1.drew.setCell ⟨z.1, 18, none⟩ (ptr (some q.1))).heap.size = w.heap.size) := by show _ = _; rw [World.size_setCell]; exact Z1.out
    have fz3 : w1.drew.frozen? ⟨z.1, 18, none⟩ = false := fz
    clear O2 V2 fz c18 c19
    refine wp_region_held_drew (S := fun W => W.cell? ⟨p, 18, none⟩ = some (.pointer (some ⟨q.1, 0, none⟩)) ∧ W.cell? ⟨p, 19, none⟩ = some (.pointer (some ⟨z.1, 0, none⟩))) (by kernel_rfl) CC (fun hHeld => ?_)
    generalize w1.drew = w2 at *
    (first | (refine Reg.take 0 (v := ?_) rfl (by kernel_rfl) (by kernel_rfl) (by kernel_rfl) (fun _ _ _ h => h) (Or.inl ⟨by rfl, ?_⟩) (by assumption) ?_; rotate_left; (focus ((intro W hSW); (try dsimp only at hSW); (try go_split_ands); go_simp; (try (with_reducible rfl)); done))) | (refine Reg.take 0 (v := undef) rfl (by kernel_rfl) (by kernel_rfl) (by kernel_rfl) (fun _ _ _ h => h) (Or.inr ⟨by rfl, rfl⟩) (by assumption) ?_))
    (try simp only [Act.put, List.setIfInBounds_toArray, List.set_cons_zero, List.set_cons_succ])
    (first | (refine Reg.take 1 (v := ?_) rfl (by kernel_rfl) (by kernel_rfl) (by kernel_rfl) (fun _ _ _ h => h) (Or.inl ⟨by rfl, ?_⟩) (by assumption) ?_; rotate_left; (focus ((intro W hSW); (try dsimp only at hSW); (try go_split_ands); go_simp; (try (with_reducible rfl)); done))) | (refine Reg.take 1 (v := undef) rfl (by kernel_rfl) (by kernel_rfl) (by kernel_rfl) (fun _ _ _ h => h) (Or.inr ⟨by rfl, rfl⟩) (by assumption) ?_))
    (try simp only [Act.put, List.setIfInBounds_toArray, List.set_cons_zero, List.set_cons_succ])
    (first | (refine Reg.take 2 (v := ?_) rfl (by kernel_rfl) (by kernel_rfl) (by kernel_rfl) (fun _ _ _ h => h) (Or.inl ⟨by rfl, ?_⟩) (by assumption) ?_; rotate_left; (focus ((intro W hSW); (try dsimp only at hSW); (try go_split_ands); go_simp; (try (with_reducible rfl)); done))) | (refine Reg.take 2 (v := undef) rfl (by kernel_rfl) (by kernel_rfl) (by kernel_rfl) (fun _ _ _ h => h) (Or.inr ⟨by rfl, rfl⟩) (by assumption) ?_))
    (try simp only [Act.put, List.setIfInBounds_toArray, List.set_cons_zero, List.set_cons_succ])
    (first | (refine Reg.take 3 (v := ?_) rfl (by kernel_rfl) (by kernel_rfl) (by kernel_rfl) (fun _ _ _ h => h) (Or.inl ⟨by rfl, ?_⟩) (by assumption) ?_; rotate_left; (focus ((intro W hSW); (try dsimp only at hSW); (try go_split_ands); go_simp; (try (with_reducible rfl)); done))) | (refine Reg.take 3 (v := undef) rfl (by kernel_rfl) (by kernel_rfl) (by kernel_rfl) (fun _ _ _ h => h) (Or.inr ⟨by rfl, rfl⟩) (by assumption) ?_))
    (try simp only [Act.put, List.setIfInBounds_toArray, List.set_cons_zero, List.set_cons_succ])
    (first | (refine Reg.take 4 (v := ?_) rfl (by kernel_rfl) (by kernel_rfl) (by kernel_rfl) (fun _ _ _ h => h) (Or.inl ⟨by rfl, ?_⟩) (by assumption) ?_; rotate_left; (focus ((intro W hSW); (try dsimp only at hSW); (try go_split_ands); go_simp; (try (with_reducible rfl)); done))) | (refine Reg.take 4 (v := undef) rfl (by kernel_rfl) (by kernel_rfl) (by kernel_rfl) (fun _ _ _ h => h) (Or.inr ⟨by rfl, rfl⟩) (by assumption) ?_))
    (try simp only [Act.put, List.setIfInBounds_toArray, List.set_cons_zero, List.set_cons_succ])
    (first | (refine Reg.take 5 (v := ?_) rfl (by kernel_rfl) (by kernel_rfl) (by kernel_rfl) (fun _ _ _ h => h) (Or.inl ⟨by rfl, ?_⟩) (by assumption) ?_; rotate_left; (focus ((intro W hSW); (try dsimp only at hSW); (try go_split_ands); go_simp; (try (with_reducible rfl)); done))) | (refine Reg.take 5 (v := undef) rfl (by kernel_rfl) (by kernel_rfl) (by kernel_rfl) (fun _ _ _ h => h) (Or.inr ⟨by rfl, rfl⟩) (by assumption) ?_))
    (try simp only [Act.put, List.setIfInBounds_toArray, List.set_cons_zero, List.set_cons_succ])
    (first | (refine Reg.take 6 (v := ?_) rfl (by kernel_rfl) (by kernel_rfl) (by kernel_rfl) (fun _ _ _ h => h) (Or.inl ⟨by rfl, ?_⟩) (by assumption) ?_; rotate_left; (focus ((intro W hSW); (try dsimp only at hSW); (try go_split_ands); go_simp; (try (with_reducible rfl)); done))) | (refine Reg.take 6 (v := undef) rfl (by kernel_rfl) (by kernel_rfl) (by kernel_rfl) (fun _ _ _ h => h) (Or.inr ⟨by rfl, rfl⟩) (by assumption) ?_))
    (try simp only [Act.put, List.setIfInBounds_toArray, List.set_cons_zero, List.set_cons_succ])
    (first | (refine Reg.take 7 (v := ?_) rfl (by kernel_rfl) (by kernel_rfl) (by kernel_rfl) (fun _ _ _ h => h) (Or.inl ⟨by rfl, ?_⟩) (by assumption) ?_; rotate_left; (focus ((intro W hSW); (try dsimp only at hSW); (try go_split_ands); go_simp; (try (with_reducible rfl)); done))) | (refine Reg.take 7 (v := undef) rfl (by kernel_rfl) (by kernel_rfl) (by kernel_rfl) (fun _ _ _ h => h) (Or.inr ⟨by rfl, rfl⟩) (by assumption) ?_))
    (try simp only [Act.put, List.setIfInBounds_toArray, List.set_cons_zero, List.set_cons_succ])
    (first | (refine Reg.take 8 (v := ?_) rfl (by kernel_rfl) (by kernel_rfl) (by kernel_rfl) (fun _ _ _ h => h) (Or.inl ⟨by rfl, ?_⟩) (by assumption) ?_; rotate_left; (focus ((intro W hSW); (try dsimp only at hSW); (try go_split_ands); go_simp; (try (with_reducible rfl)); done))) | (refine Reg.take 8 (v := undef) rfl (by kernel_rfl) (by kernel_rfl) (by kernel_rfl) (fun _ _ _ h => h) (Or.inr ⟨by rfl, rfl⟩) (by assumption) ?_))
    (try simp only [Act.put, List.setIfInBounds_toArray, List.set_cons_zero, List.set_cons_succ])
    (first | (refine Reg.take 9 (v := ?_) rfl (by kernel_rfl) (by kernel_rfl) (by kernel_rfl) (fun _ _ _ h => h) (Or.inl ⟨by rfl, ?_⟩) (by assumption) ?_; rotate_left; (focus ((intro W hSW); (try dsimp only at hSW); (try go_split_ands); go_simp; (try (with_reducible rfl)); done))) | (refine Reg.take 9 (v := undef) rfl (by kernel_rfl) (by kernel_rfl) (by kernel_rfl) (fun _ _ _ h => h) (Or.inr ⟨by rfl, rfl⟩) (by assumption) ?_))
    (try simp only [Act.put, List.setIfInBounds_toArray, List.set_cons_zero, List.set_cons_succ])
    refine Reg.step 10 rfl (by kernel_rfl) (by rfl) (fun K hK => ?_)
    go_simp
    have CD : (w2.setCell ⟨z.1, 18, none⟩ (ptr (some q.1))).cell? ⟨p, 18, none⟩ = some (.pointer (some ⟨q.1, 0, none⟩)) ∧ (w2.setCell ⟨z.1, 18, none⟩ (ptr (some q.1))).cell? ⟨p, 19, none⟩ = some (.pointer (some ⟨z.1, 0, none⟩)) := ⟨(World.cell?_of_block (Below.heap_setCell _ _ _ _ (Ne.symm NZ))).trans CC.1, (World.cell?_of_block (Below.heap_setCell _ _ _ _ (Ne.symm NZ))).trans CC.2⟩
    refine hK.out _ _ CD (fun hHeldB => ?_)
    clear hK K
    (try simp only [Act.put, List.setIfInBounds_toArray, List.set_cons_zero, List.set_cons_succ])
    refine wpAnyH_done (by kernel_rfl) ?_ _
    clear hHeld hHeldB
    go_wp2_with fail
    refine bodyPost_end (results_none rfl _ _ _) rfl ?_
    exact ⟨rfl, O3.out.1, by rw [lst_snoc]; exact O3.out.2, V3.out, Z3.out⟩

/-- One is taken out. -/
theorem out_any {w : World} {g r : Nat} {m h s : Int} {a : List Nd} {p : Nat} {x : Kv} {b : List Nd} (H : DL w g r m (a ++ (p, x) :: b) h s) :
    Calls Try.prog 21 #[.pointer (some ⟨g, 0, none⟩), .pointer (some ⟨p, 0, none⟩)] w fun e w' => e = .returned (.tuple #[]) ∧ Out w w' g r m h s a p x b := by
  rcases List.eq_nil_or_concat a with rfl | ⟨u, q, rfl⟩
  · exact out_nil H
  · rw [List.concat_eq_append] at H ⊢
    exact out_snoc H
end Cac
end Go.Proofs.Ytfngebikihdogaa
