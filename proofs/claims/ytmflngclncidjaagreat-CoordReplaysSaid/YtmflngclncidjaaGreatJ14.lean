/-
  SEVERAL TEXTS IN ONE FILE: CooDelW, CooInsW.
-/
import Derived.Test.YtmflngclncidjaaGreatJ13
import Derived.Test.YtmflngclncidjaaGreatJ10
/-
  A WALK: slices.Delete of one fence, on a row of one's own.
-/
namespace Go.Proofs.YtmflngclncidjaaGreat
open Go.RowKit Mem
namespace Coo
open Lea (Cells But OneBox)

set_option maxRecDepth 100000 in
set_option maxHeartbeats 6400000 in
/-- slices.Delete of the one at i. -/
theorem delete_own {base : Nat} {w : World} {A : Option Addr} {n c : Nat} {l : List Fv} {i j m : Nat} (hj : j = i + 1) (hm : m + 1 = n) (h : OwnsF base w (.slice A n c) n l) (hi : i < n) (hn : n ≤ 1000000) :
    Calls Tryz.prog 66 #[.slice A n c, .int .i64 i, .int .i64 (j : Int)] w fun e w' => e = .returned (.slice A m c) ∧ OwnsF base w' (.slice A m c) m (l.take i ++ l.drop j) ∧ w.grownBy w' (Value.slice A n c).ownBlock := by
  have hlen := h.2
  obtain ⟨g, cur, rfl, hbg, hC, hnc, hcm, hs, ht⟩ := isNone_own h (by omega)
  have hne : ((i : Int) == (j : Int)) = false := beq_eq_false_iff_ne.2 (by omega)
  have hhead := fun w => run_headF (some ⟨g, 0, none⟩) n c i (by omega) w
  have htail := fun w => run_tailF (some ⟨g, 0, none⟩) n c j (by omega) w
  -- what is moved to the left
  obtain ⟨news, hnews⟩ : ∃ news, news = (l.drop j).flatMap cellsF := ⟨_, rfl⟩
  have hnl : news.length = (n - j) * 3 := by rw [hnews, flat_len, List.length_drop, hlen]
  have hcl : cur.toList.length = c * 3 := by simpa using hs
  have hdrop : (cur.toList.drop (j * 3)).take (n * 3 - j * 3) = news := by
    rw [← List.drop_take, ht, flat_drop, hnews]
  obtain ⟨ad, hA, hsrc⟩ : ∃ ad : Addr, (if c = j then (some ⟨g, 0, none⟩ : Option Addr) else (some ⟨g, 0, none⟩ : Option Addr).map (·.add (j * 3))) = some ad ∧ ∀ j u, news[j]? = some u → w.cell? (ad.add j) = some u := by
    by_cases hc : c = j
    · refine ⟨⟨g, 0, none⟩, by simp [hc], fun j u hj => ?_⟩
      have := (List.getElem?_eq_some_iff.1 hj).1
      rw [hnl] at this; omega
    · refine ⟨⟨g, j * 3, none⟩, by simp [hc, Mem.add_none], fun j u hj => ?_⟩
      have hjl := (List.getElem?_eq_some_iff.1 hj).1
      rw [Mem.add_none, Lea.Cells.cell hC, ← Array.getElem?_toList, ← List.getElem?_drop]
      rw [← hdrop, List.getElem?_take] at hj
      split at hj
      · exact hj
      · cases hj
  rw [hA] at htail
  have hone : ∀ u ∈ news, u.oneCell' = true := by rw [hnews]; exact flat_one _
  obtain ⟨i0, hi0, -, hsz, -⟩ := info_parts info_fence
  have HAP : Hid (∀ W ty, Cells W g 51 cur → (∀ j u, news[j]? = some u → W.cell? (ad.add j) = some u) → (Builtin.append_ #[29, 29] ty #[.slice (some ⟨g, 0, none⟩) i c, .slice (some ad) (n - j) (c - j)]).run Tryz.prog W = .ok (.slice (some ⟨g, 0, none⟩) m c) (W.setRow g (cur.toList.take (i * 3) ++ news ++ cur.toList.drop (i * 3 + news.length)).toArray)) := by
    show ∀ _, _
    intro W ty hW hc
    have := run_append_room (P := Tryz.prog) W 29 ty 51 i0 Tryz.underlying29 hi0 g i c cur hW ad (n - j) (c - j) news (by rw [hsz]; exact hnl) hc hone (by omega) (by rw [hsz, hnl]; have : cur.size = c * 3 := hs; omega)
    rw [hsz, show i + (n - j) = m by omega] at this
    exact this
  obtain ⟨cur1, hcur1⟩ : ∃ cur1, cur1 = cur.toList.take (i * 3) ++ news ++ cur.toList.drop (i * 3 + news.length) := ⟨_, rfl⟩
  have hl1 : cur1.length = c * 3 := by
    rw [hcur1]; simp only [List.length_append, List.length_take, List.length_drop, hcl, hnl]; omega
  have ht1 : cur1.take (m * 3) = (l.take i ++ l.drop j).flatMap cellsF := by
    have e1 : cur.toList.take (i * 3) = (l.take i).flatMap cellsF := by
      rw [← flat_take, ← ht, List.take_take, Nat.min_eq_left (by omega)]
    rw [hcur1, List.flatMap_append, ← hnews, ← e1]
    have e2 : (cur.toList.take (i * 3) ++ news).length = m * 3 := by
      rw [List.length_append, List.length_take, hcl, hnl]; omega
    rw [List.take_append, e2, Nat.sub_self, List.take_zero, List.append_nil, List.take_of_length_le (by omega)]
  rw [← hcur1] at HAP
  obtain ⟨cur2, hcur2⟩ : ∃ cur2, cur2 = splice cur1 (m * 3) (Builtin.zeroCells #[.int .i64 0, .int .i64 0, .int .i64 0] 1).toList := ⟨_, rfl⟩
  have hl2 : cur2.length = c * 3 := by
    rw [hcur2, length_splice _ _ _ (by rw [fences_three]; omega)]; exact hl1
  have ht2 : cur2.take (m * 3) = (l.take i ++ l.drop j).flatMap cellsF := by
    rw [hcur2, splice_take _ _ _ _ (Nat.le_refl _) (by omega)]; exact ht1
  have HCL : Hid (∀ W ty, Cells W g 51 cur1.toArray → (Builtin.clear_ #[29] ty #[.slice (some ⟨g, m * 3, none⟩) 1 (c - m)]).run Tryz.prog W = .ok (.tuple #[]) (W.setRow g cur2.toArray)) := by
    show ∀ _, _
    intro W ty hW
    rw [hcur2]
    exact run_clear_f W ty g (m * 3) 1 (c - m) cur1 hW (by omega) (by omega)
  have hmid := fun w => run_midF g m c m n (by omega) hnc w
  rw [show n - m = 1 by omega] at hmid
  have FIN : Hid (∀ W, Cells W g 51 cur2.toArray → OwnsF base W (.slice (some ⟨g, 0, none⟩) m c) m (l.take i ++ l.drop j)) := by
    show ∀ _, _
    intro W hW
    refine own_made hW hbg (by omega) hcm hl2 ht2 ?_
    rw [List.length_append, List.length_take, List.length_drop, hlen]; omega
  have HCU := Lib.hid hC
  have HSR := Lib.hid hsrc
  have HJ := Lib.hid hj
  have HMM := Lib.hid hm
  have b1 : (0 : Int) ≤ (i : Int) := by omega
  have b2 : (i : Int) ≤ (j : Int) := by omega
  have b3 : (j : Int) ≤ (n : Int) := by omega
  have b4 : (n : Int) ≤ (c : Int) := by omega
  clear hj hm hcur1 hcur2 hl1 hl2 ht1 ht2 hone hi0 hsz hsrc hA hdrop hcl hnl hnews hC hs ht h hlen
  go_enter Tryz.func66, Tryz.ntmps66
  go_upto_region 5 with fail
  refine wp_region_held_drew (S := fun _ => True) (by kernel_rfl) trivial (fun hHeld => ?_)
  (first | (refine Reg.take 0 (v := ?_) rfl (by kernel_rfl) (by kernel_rfl) (by kernel_rfl) (fun _ _ _ h => h) (Or.inl ⟨by rfl, ?_⟩) (by assumption) ?_; rotate_left; (focus ((intro W hSW); (try dsimp only at hSW); (try go_split_ands); go_simp; (try (with_reducible rfl)); done))) | (refine Reg.take 0 (v := undef) rfl (by kernel_rfl) (by kernel_rfl) (by kernel_rfl) (fun _ _ _ h => h) (Or.inr ⟨by rfl, rfl⟩) (by assumption) ?_))
  (try simp only [Act.put, List.setIfInBounds_toArray, List.set_cons_zero, List.set_cons_succ])
  (first | (refine Reg.take 1 (v := ?_) rfl (by kernel_rfl) (by kernel_rfl) (by kernel_rfl) (fun _ _ _ h => h) (Or.inl ⟨by rfl, ?_⟩) (by assumption) ?_; rotate_left; (focus ((intro W hSW); (try dsimp only at hSW); (try go_split_ands); go_simp; (try (with_reducible rfl)); done))) | (refine Reg.take 1 (v := undef) rfl (by kernel_rfl) (by kernel_rfl) (by kernel_rfl) (fun _ _ _ h => h) (Or.inr ⟨by rfl, rfl⟩) (by assumption) ?_))
  (try simp only [Act.put, List.setIfInBounds_toArray, List.set_cons_zero, List.set_cons_succ])
  (first | (refine Reg.take 2 (v := ?_) rfl (by kernel_rfl) (by kernel_rfl) (by kernel_rfl) (fun _ _ _ h => h) (Or.inl ⟨by rfl, ?_⟩) (by assumption) ?_; rotate_left; (focus ((intro W hSW); (try dsimp only at hSW); (try go_split_ands); go_simp; (try (with_reducible rfl)); done))) | (refine Reg.take 2 (v := undef) rfl (by kernel_rfl) (by kernel_rfl) (by kernel_rfl) (fun _ _ _ h => h) (Or.inr ⟨by rfl, rfl⟩) (by assumption) ?_))
  (try simp only [Act.put, List.setIfInBounds_toArray, List.set_cons_zero, List.set_cons_succ])
  (first | (refine Reg.take 3 (v := ?_) rfl (by kernel_rfl) (by kernel_rfl) (by kernel_rfl) (fun _ _ _ h => h) (Or.inl ⟨by rfl, ?_⟩) (by assumption) ?_; rotate_left; (focus ((intro W hSW); (try dsimp only at hSW); (try go_split_ands); go_simp; (try (with_reducible rfl)); done))) | (refine Reg.take 3 (v := undef) rfl (by kernel_rfl) (by kernel_rfl) (by kernel_rfl) (fun _ _ _ h => h) (Or.inr ⟨by rfl, rfl⟩) (by assumption) ?_))
  (try simp only [Act.put, List.setIfInBounds_toArray, List.set_cons_zero, List.set_cons_succ])
  (first | (refine Reg.take 4 (v := ?_) rfl (by kernel_rfl) (by kernel_rfl) (by kernel_rfl) (fun _ _ _ h => h) (Or.inl ⟨by rfl, ?_⟩) (by assumption) ?_; rotate_left; (focus ((intro W hSW); (try dsimp only at hSW); (try go_split_ands); go_simp; (try (with_reducible rfl)); done))) | (refine Reg.take 4 (v := undef) rfl (by kernel_rfl) (by kernel_rfl) (by kernel_rfl) (fun _ _ _ h => h) (Or.inr ⟨by rfl, rfl⟩) (by assumption) ?_))
  (try simp only [Act.put, List.setIfInBounds_toArray, List.set_cons_zero, List.set_cons_succ])
  (first | (refine Reg.take 5 (v := ?_) rfl (by kernel_rfl) (by kernel_rfl) (by kernel_rfl) (fun _ _ _ h => h) (Or.inl ⟨by rfl, ?_⟩) (by assumption) ?_; rotate_left; (focus ((intro W hSW); (try dsimp only at hSW); (try go_split_ands); go_simp; (try (with_reducible rfl)); done))) | (refine Reg.take 5 (v := undef) rfl (by kernel_rfl) (by kernel_rfl) (by kernel_rfl) (fun _ _ _ h => h) (Or.inr ⟨by rfl, rfl⟩) (by assumption) ?_))
  (try simp only [Act.put, List.setIfInBounds_toArray, List.set_cons_zero, List.set_cons_succ])
  refine Reg.step 6 rfl (by kernel_rfl) (by rfl) (fun K hK => ?_)
  refine wp_append_room (.tmp 22) (.tmp 25) rfl rfl rfl (HAP.out w.drew _ HCU.out HSR.out) ?_
  have C3 : Hid (Cells (w.drew.setRow g cur1.toArray) g 51 cur1.toArray) := setRow_heap w.drew g _ _ _ _ HCU.out
  have U3 : Hid (But g w (w.drew.setRow g cur1.toArray)) := ⟨⟨rfl, rfl, rfl, by simp [World.setRow], fun k _ hn => setRow_other w.drew g k cur1.toArray (fun e => hn (by rw [e]))⟩⟩
  refine hK.out _ _ trivial (fun hHeld2 => ?_)
  clear hK K
  (try simp only [Act.put, List.setIfInBounds_toArray, List.set_cons_zero, List.set_cons_succ])
  (first | (refine Reg.take 7 (v := ?_) rfl (by kernel_rfl) (by kernel_rfl) (by kernel_rfl) (fun _ _ _ h => h) (Or.inl ⟨by rfl, ?_⟩) (by assumption) ?_; rotate_left; (focus ((intro W hSW); (try dsimp only at hSW); (try go_split_ands); go_simp; (try (with_reducible rfl)); done))) | (refine Reg.take 7 (v := undef) rfl (by kernel_rfl) (by kernel_rfl) (by kernel_rfl) (fun _ _ _ h => h) (Or.inr ⟨by rfl, rfl⟩) (by assumption) ?_))
  (try simp only [Act.put, List.setIfInBounds_toArray, List.set_cons_zero])
  refine wpAnyH_done (by kernel_rfl) ?_ _
  generalize w.drew.setRow g cur1.toArray = w3 at *
  have hcl := fun ty => HCL.out w3 ty C3.out
  clear HCL HAP htail hhead
  go_wp2_with fail
  go_ret
  exact ⟨rfl, FIN.out _ (setRow_heap w3 g _ _ _ _ C3.out), (U3.out.trans (show But g w3 (w3.setRow g cur2.toArray) from ⟨⟨rfl, rfl, rfl, by simp [World.setRow], fun k _ hn => setRow_other w3 g k cur2.toArray (fun e => hn (by rw [e]))⟩⟩)).by_⟩
end Coo
end Go.Proofs.YtmflngclncidjaaGreat
/-
  A WALK OVER insert: a lease is laid in its place. (Written by gen_cooins.py.)
-/
namespace Go.Proofs.YtmflngclncidjaaGreat
open Go.RowKit Mem
namespace Coo
open Lea (Cells But OneBox Lv Tv)
open Spa (Sp)

theorem cells_grown'' {w w' : World} {row : Option Nat} {g : Nat} {t : TypeId} {cs : Array Value} (h : Cells w g t cs) (hg : w.grownBy w' row) (hne : row ≠ some g) : Cells w' g t cs := (hg.block g (Lea.Cells.lt h) (fun e => hne e.symm)).trans h
theorem cells_grown' {w w1 w' : World} {row : Option Nat} {g : Nat} {t : TypeId} {cs : Array Value} (h : Cells w g t cs) (hb : Below w.heap.size w w1) (hg : w1.grownBy w' row) (hne : row ≠ some g) : Cells w' g t cs := cells_grown'' (Lea.Cells.below h hb) hg hne
theorem desk_setL {base g : Nat} {w : World} {x : Cx} (hbox : KBox w g x) {A : Option Addr} {n a : Nat} {l : List Lv} (hl : Lea.OwnsL base w (.slice A n a) n l) (hS : Spa.OwnsL base w (.slice x.S x.m x.s) x.m x.p.s) (hF : OwnsF base w (.slice x.W x.q x.k) x.q x.p.wt) (hle : base ≤ g) :
    Desk base (w.setCell ⟨g, 2, none⟩ (.slice A n a)) g ⟨Coo.setT x.p ⟨x.p.t.last, x.p.t.now, l⟩, A, n, a, x.S, x.m, x.s, x.W, x.q, x.k⟩ := by
  have hb := Lea.But.set1 w g 2 (.slice A n a)
  exact ⟨Lea.Cells.set_ hbox 2 _, Lea.OwnsL.kept hl hb.by_ (.inr (own_ne hl.1 hbox (by decide))), Spa.OwnsL.kept hS hb.by_ (.inr (own_ne hS.1 hbox (by decide))), OwnsF.kept hF hb.by_ (.inr (own_ne hF.1 hbox (by decide))), hle⟩
def geB (l : List Lv) (key : Int) (i : Nat) : Bool := match l[i]? with | some y => decide (key ≤ y.key) | none => false
theorem geB_mono {l : List Lv} (hr : Lea.Rises l) {key : Int} {a b : Nat} (hab : a ≤ b) (hb : b < l.length) (h : geB l key a = true) : geB l key b = true := by
  unfold geB at *
  rw [List.getElem?_eq_getElem (by omega)] at h
  rw [List.getElem?_eq_getElem hb]
  simp only [decide_eq_true_eq] at *
  rcases Nat.eq_or_lt_of_le hab with e | e
  · subst e; exact h
  · have := Lea.rises_lt hr e (List.getElem?_eq_getElem (by omega)) (List.getElem?_eq_getElem hb)
    omega

set_option maxRecDepth 100000 in
set_option maxHeartbeats 1600000 in
theorem insert1_any {x : Cx} {v : Lv} {g q p i : Nat} {w : World} {y : Lv} (hp : OneBox w q 79 (.pointer (some ⟨g, 0, none⟩))) (hb : KBox w g x) (hv : Lea.LBox w p v) (hl : Lea.RowL w x.A x.n x.a x.p.t.l) (hy : x.p.t.l[i]? = some y) (hi : i < x.n) :
    Calls Tryz.prog 84 #[.int .i64 i, .pointer (some ⟨q, 0, none⟩), .pointer (some ⟨p, 0, none⟩)] w fun e w' => e = .returned (.bool (decide (v.key ≤ y.key))) ∧ Below w.heap.size w w' := by
  obtain ⟨b, o, hA, c0, c1, c2, c3⟩ := Lea.RowS.lease_at hl hy
  have m2 := (seven hb).2.2.1
  have p0 := Lea.OneBox.cells hp
  obtain ⟨v0, v1, v2, v3⟩ := Lea.LBox.cells hv
  rw [hA] at m2
  have hk0 : (0 : Int) ≤ (i : Int) := by omega
  have hk1 : (i : Int) < (x.n : Int) := by omega
  clear hp hb hv hl hy hA
  generalize x.n = n at *
  generalize x.a = a at *
  go_enter Tryz.func84, Tryz.ntmps84
  go_upto_region 1 with fail
  refine wp_region_held_drew (S := fun W => W.cell? ⟨q, 0, none⟩ = some (.pointer (some ⟨g, 0, none⟩)) ∧ W.cell? ⟨g, 2, none⟩ = some (.slice (some ⟨b, o, none⟩) n a) ∧ W.cell? ⟨b, o + i * 4, none⟩ = some (.int .i64 y.key) ∧ W.cell? ⟨p, 0, none⟩ = some (.int .i64 v.key)) (by kernel_rfl) ⟨p0, m2, c0, v0⟩ (fun hHeld => ?_)
  (first | (refine Reg.take 0 (v := ?_) rfl (by kernel_rfl) (by kernel_rfl) (by kernel_rfl) (fun _ _ _ h => h) (Or.inl ⟨by rfl, ?_⟩) (by assumption) ?_; rotate_left; (focus ((intro W hSW); (try dsimp only at hSW); (try go_split_ands); go_simp; (try (with_reducible rfl)); done))) | (refine Reg.take 0 (v := undef) rfl (by kernel_rfl) (by kernel_rfl) (by kernel_rfl) (fun _ _ _ h => h) (Or.inr ⟨by rfl, rfl⟩) (by assumption) ?_))
  (try simp only [Act.put, List.setIfInBounds_toArray, List.set_cons_zero, List.set_cons_succ])
  (first | (refine Reg.take 1 (v := ?_) rfl (by kernel_rfl) (by kernel_rfl) (by kernel_rfl) (fun _ _ _ h => h) (Or.inl ⟨by rfl, ?_⟩) (by assumption) ?_; rotate_left; (focus ((intro W hSW); (try dsimp only at hSW); (try go_split_ands); go_simp; (try (with_reducible rfl)); done))) | (refine Reg.take 1 (v := undef) rfl (by kernel_rfl) (by kernel_rfl) (by kernel_rfl) (fun _ _ _ h => h) (Or.inr ⟨by rfl, rfl⟩) (by assumption) ?_))
  (try simp only [Act.put, List.setIfInBounds_toArray, List.set_cons_zero, List.set_cons_succ])
  (first | (refine Reg.take 2 (v := ?_) rfl (by kernel_rfl) (by kernel_rfl) (by kernel_rfl) (fun _ _ _ h => h) (Or.inl ⟨by rfl, ?_⟩) (by assumption) ?_; rotate_left; (focus ((intro W hSW); (try dsimp only at hSW); (try go_split_ands); go_simp; (try (with_reducible rfl)); done))) | (refine Reg.take 2 (v := undef) rfl (by kernel_rfl) (by kernel_rfl) (by kernel_rfl) (fun _ _ _ h => h) (Or.inr ⟨by rfl, rfl⟩) (by assumption) ?_))
  (try simp only [Act.put, List.setIfInBounds_toArray, List.set_cons_zero, List.set_cons_succ])
  (first | (refine Reg.take 3 (v := ?_) rfl (by kernel_rfl) (by kernel_rfl) (by kernel_rfl) (fun _ _ _ h => h) (Or.inl ⟨by rfl, ?_⟩) (by assumption) ?_; rotate_left; (focus ((intro W hSW); (try dsimp only at hSW); (try go_split_ands); go_simp; (try (with_reducible rfl)); done))) | (refine Reg.take 3 (v := undef) rfl (by kernel_rfl) (by kernel_rfl) (by kernel_rfl) (fun _ _ _ h => h) (Or.inr ⟨by rfl, rfl⟩) (by assumption) ?_))
  (try simp only [Act.put, List.setIfInBounds_toArray, List.set_cons_zero, List.set_cons_succ])
  (first | (refine Reg.take 4 (v := ?_) rfl (by kernel_rfl) (by kernel_rfl) (by kernel_rfl) (fun _ _ _ h => h) (Or.inl ⟨by rfl, ?_⟩) (by assumption) ?_; rotate_left; (focus ((intro W hSW); (try dsimp only at hSW); (try go_split_ands); go_simp; (try (with_reducible rfl)); done))) | (refine Reg.take 4 (v := undef) rfl (by kernel_rfl) (by kernel_rfl) (by kernel_rfl) (fun _ _ _ h => h) (Or.inr ⟨by rfl, rfl⟩) (by assumption) ?_))
  (try simp only [Act.put, List.setIfInBounds_toArray, List.set_cons_zero, List.set_cons_succ])
  (first | (refine Reg.take 5 (v := ?_) rfl (by kernel_rfl) (by kernel_rfl) (by kernel_rfl) (fun _ _ _ h => h) (Or.inl ⟨by rfl, ?_⟩) (by assumption) ?_; rotate_left; (focus ((intro W hSW); (try dsimp only at hSW); (try go_split_ands); go_simp; (try (with_reducible rfl)); done))) | (refine Reg.take 5 (v := undef) rfl (by kernel_rfl) (by kernel_rfl) (by kernel_rfl) (fun _ _ _ h => h) (Or.inr ⟨by rfl, rfl⟩) (by assumption) ?_))
  (try simp only [Act.put, List.setIfInBounds_toArray, List.set_cons_zero, List.set_cons_succ])
  (first | (refine Reg.take 6 (v := ?_) rfl (by kernel_rfl) (by kernel_rfl) (by kernel_rfl) (fun _ _ _ h => h) (Or.inl ⟨by rfl, ?_⟩) (by assumption) ?_; rotate_left; (focus ((intro W hSW); (try dsimp only at hSW); (try go_split_ands); go_simp; (try (with_reducible rfl)); done))) | (refine Reg.take 6 (v := undef) rfl (by kernel_rfl) (by kernel_rfl) (by kernel_rfl) (fun _ _ _ h => h) (Or.inr ⟨by rfl, rfl⟩) (by assumption) ?_))
  (try simp only [Act.put, List.setIfInBounds_toArray, List.set_cons_zero, List.set_cons_succ])
  (first | (refine Reg.take 7 (v := ?_) rfl (by kernel_rfl) (by kernel_rfl) (by kernel_rfl) (fun _ _ _ h => h) (Or.inl ⟨by rfl, ?_⟩) (by assumption) ?_; rotate_left; (focus ((intro W hSW); (try dsimp only at hSW); (try go_split_ands); go_simp; (try (with_reducible rfl)); done))) | (refine Reg.take 7 (v := undef) rfl (by kernel_rfl) (by kernel_rfl) (by kernel_rfl) (fun _ _ _ h => h) (Or.inr ⟨by rfl, rfl⟩) (by assumption) ?_))
  (try simp only [Act.put, List.setIfInBounds_toArray, List.set_cons_zero, List.set_cons_succ])
  (first | (refine Reg.take 8 (v := ?_) rfl (by kernel_rfl) (by kernel_rfl) (by kernel_rfl) (fun _ _ _ h => h) (Or.inl ⟨by rfl, ?_⟩) (by assumption) ?_; rotate_left; (focus ((intro W hSW); (try dsimp only at hSW); (try go_split_ands); go_simp; (try (with_reducible rfl)); done))) | (refine Reg.take 8 (v := undef) rfl (by kernel_rfl) (by kernel_rfl) (by kernel_rfl) (fun _ _ _ h => h) (Or.inr ⟨by rfl, rfl⟩) (by assumption) ?_))
  (try simp only [Act.put, List.setIfInBounds_toArray, List.set_cons_zero, List.set_cons_succ])
  (first | (refine Reg.take 9 (v := ?_) rfl (by kernel_rfl) (by kernel_rfl) (by kernel_rfl) (fun _ _ _ h => h) (Or.inl ⟨by rfl, ?_⟩) (by assumption) ?_; rotate_left; (focus ((intro W hSW); (try dsimp only at hSW); (try go_split_ands); go_simp; (try (with_reducible rfl)); done))) | (refine Reg.take 9 (v := undef) rfl (by kernel_rfl) (by kernel_rfl) (by kernel_rfl) (fun _ _ _ h => h) (Or.inr ⟨by rfl, rfl⟩) (by assumption) ?_))
  (try simp only [Act.put, List.setIfInBounds_toArray, List.set_cons_zero, List.set_cons_succ])
  (first | (refine Reg.take 10 (v := ?_) rfl (by kernel_rfl) (by kernel_rfl) (by kernel_rfl) (fun _ _ _ h => h) (Or.inl ⟨by rfl, ?_⟩) (by assumption) ?_; rotate_left; (focus ((intro W hSW); (try dsimp only at hSW); (try go_split_ands); go_simp; (try (with_reducible rfl)); done))) | (refine Reg.take 10 (v := undef) rfl (by kernel_rfl) (by kernel_rfl) (by kernel_rfl) (fun _ _ _ h => h) (Or.inr ⟨by rfl, rfl⟩) (by assumption) ?_))
  (try simp only [Act.put, List.setIfInBounds_toArray, List.set_cons_zero, List.set_cons_succ])
  (first | (refine Reg.take 11 (v := ?_) rfl (by kernel_rfl) (by kernel_rfl) (by kernel_rfl) (fun _ _ _ h => h) (Or.inl ⟨by rfl, ?_⟩) (by assumption) ?_; rotate_left; (focus ((intro W hSW); (try dsimp only at hSW); (try go_split_ands); go_simp; (try (with_reducible rfl)); done))) | (refine Reg.take 11 (v := undef) rfl (by kernel_rfl) (by kernel_rfl) (by kernel_rfl) (fun _ _ _ h => h) (Or.inr ⟨by rfl, rfl⟩) (by assumption) ?_))
  (try simp only [Act.put, List.setIfInBounds_toArray, List.set_cons_zero, List.set_cons_succ])
  (first | (refine Reg.take 12 (v := ?_) rfl (by kernel_rfl) (by kernel_rfl) (by kernel_rfl) (fun _ _ _ h => h) (Or.inl ⟨by rfl, ?_⟩) (by assumption) ?_; rotate_left; (focus ((intro W hSW); (try dsimp only at hSW); (try go_split_ands); go_simp; (try (with_reducible rfl)); done))) | (refine Reg.take 12 (v := undef) rfl (by kernel_rfl) (by kernel_rfl) (by kernel_rfl) (fun _ _ _ h => h) (Or.inr ⟨by rfl, rfl⟩) (by assumption) ?_))
  (try simp only [Act.put, List.setIfInBounds_toArray, List.set_cons_zero, List.set_cons_succ])
  (first | (refine Reg.take 13 (v := ?_) rfl (by kernel_rfl) (by kernel_rfl) (by kernel_rfl) (fun _ _ _ h => h) (Or.inl ⟨by rfl, ?_⟩) (by assumption) ?_; rotate_left; (focus ((intro W hSW); (try dsimp only at hSW); (try go_split_ands); go_simp; (try (with_reducible rfl)); done))) | (refine Reg.take 13 (v := undef) rfl (by kernel_rfl) (by kernel_rfl) (by kernel_rfl) (fun _ _ _ h => h) (Or.inr ⟨by rfl, rfl⟩) (by assumption) ?_))
  (try simp only [Act.put, List.setIfInBounds_toArray, List.set_cons_zero, List.set_cons_succ])
  refine wpAnyH_done (by kernel_rfl) ?_ _
  go_wp2_with fail
  go_ret
  exact ⟨rfl, (Below.refl _ w).drew⟩

set_option maxRecDepth 100000 in
set_option maxHeartbeats 12800000 in
theorem insert_act {base g : Nat} {x : Cx} {w : World} {v : Lv} (h : Desk base w g x) (hr : Lea.Rises x.p.t.l) (hh : Lea.heldB x.p.t.l v.key = false) (hn : x.n ≤ 100000) :
    Calls Tryz.prog 67 #[.pointer (some ⟨g, 0, none⟩), Lea.lv v] w fun en w' => en = .returned (.tuple #[]) ∧ ∃ x', x'.p = setT x.p ⟨x.p.t.last, x.p.t.now, Lea.putL x.p.t.l v.key v⟩ ∧ Desk base w' g x' ∧ Move base g (oL x) (oW x) (oL x') (oW x') w w' := by
  have H0 := Lib.hid h
  have hln := h.l.2
  have HN : Hid (x.n ≤ 1000000) := by show _ ≤ _; omega
  have hlen := Lib.hid hln
  have HR := Lib.hid hr
  have HH := Lib.hid hh
  have L1 : Hid (Below w.heap.size w ((w.alloc (.cells #[.pointer (some ⟨g, 0, none⟩)] 79)).alloc (.cells #[.int .i64 v.key, .int .i64 v.host, .int .i64 v.epoch, .int .i64 v.til] 65))) := ((Below.refl w.heap.size w).alloc (Nat.le_refl _) _).alloc (by simp) _
  have P1 : Hid (OneBox ((w.alloc (.cells #[.pointer (some ⟨g, 0, none⟩)] 79)).alloc (.cells #[.int .i64 v.key, .int .i64 v.host, .int .i64 v.epoch, .int .i64 v.til] 65)) w.heap.size 79 (.pointer (some ⟨g, 0, none⟩))) := heap_alloc2_old w _ _
  have V1 : Hid (Lea.LBox ((w.alloc (.cells #[.pointer (some ⟨g, 0, none⟩)] 79)).alloc (.cells #[.int .i64 v.key, .int .i64 v.host, .int .i64 v.epoch, .int .i64 v.til] 65)) (w.heap.size + 1) v) := heap_alloc2_new w _ _
  have QV : Hid ((Value.slice x.A x.n x.a).ownBlock ≠ some (w.heap.size + 1)) := fun e => by have := (Lea.OwnsL.lt h.l _ e).2; omega
  clear h hr hh hln
  go_enter Tryz.func67, Tryz.ntmps67
  go_upto_region 1 with fail
  generalize (w.alloc (.cells #[.pointer (some ⟨g, 0, none⟩)] 79)).alloc (.cells #[.int .i64 v.key, .int .i64 v.host, .int .i64 v.epoch, .int .i64 v.til] 65) = w1 at *
  have D1 := Lib.hid (H0.out.below L1.out)
  have HS := fun W (hW : Below w1.heap.size w1 W) => And.intro (Lea.OneBox.cells (Lea.Cells.below P1.out hW)) (Lea.LBox.cells (Lea.Cells.below V1.out hW))
  have HSE := Lib.hid (Lea.search_any (n := x.n) (w := w1) 84 #[.pointer (some ⟨w.heap.size, 0, none⟩), .pointer (some ⟨w.heap.size + 1, 0, none⟩)] (enters_of Tryz.func84 (by kernel_rfl) rfl) (geB x.p.t.l v.key) (by have := HN.out; omega) (fun W i hi hW => by
    obtain ⟨y, hy⟩ : ∃ y, x.p.t.l[i]? = some y := ⟨_, List.getElem?_eq_getElem (by have := hlen.out; omega)⟩
    unfold geB
    rw [hy]
    exact insert1_any (Lea.Cells.below P1.out hW) (D1.out.below hW).box (Lea.Cells.below V1.out hW) (Lea.OwnsL.row (D1.out.below hW).l (by have := HN.out; omega)) hy hi) (fun a b hab hb ha => geB_mono HR.out hab (by have := hlen.out; omega) ha))
  obtain ⟨m0, m1, m2, m3, m4, m5, m6⟩ := seven D1.out.box
  obtain ⟨p0, v0, v1, v2, v3⟩ := HS _ (Below.refl _ w1)
  go_wp2_with fail
  refine HSE.out.mono ?_
  rintro e w2 ⟨⟨k, rfl, hk, hlo, hhi⟩, hb⟩
  have LL2 := Lib.hid hb
  have HK1 : Hid (k ≤ x.n) := hk
  have HPT : Hid (Lea.insL x.p.t.l k v = Lea.putL x.p.t.l v.key v) := by
    have hpl : Lea.Place x.p.t.l v.key k := by
      refine ⟨by have := hlen.out; omega, fun t y ht hy => ?_, fun t y ht hy => ?_⟩
      · have := hlo t ht
        unfold geB at this
        rw [hy] at this
        simpa using this
      · have := hhi t ht (by have := (List.getElem?_eq_some_iff.1 hy).1; have := hlen.out; omega)
        unfold geB at this
        rw [hy] at this
        simpa using this
    show _ = _
    unfold Lea.insL Lea.putL
    rw [Lea.place_below hpl, Lea.place_above hpl HH.out]
  clear hb hk hlo hhi HSE m0 m1 m2 m3 m4 m5 m6 p0 v0 v1 v2 v3
  go_upto_region 2 with fail
  have LL3 : Hid (Below w1.heap.size w1 w2.drew) := LL2.out.drew
  refine wp_region_held_drew (S := fun W => W.cell? ⟨w.heap.size, 0, none⟩ = some (.pointer (some ⟨g, 0, none⟩)) ∧ (W.cell? ⟨w.heap.size + 1, 0, none⟩ = some (.int .i64 v.key) ∧ W.cell? ⟨w.heap.size + 1, 1, none⟩ = some (.int .i64 v.host) ∧ W.cell? ⟨w.heap.size + 1, 2, none⟩ = some (.int .i64 v.epoch) ∧ W.cell? ⟨w.heap.size + 1, 3, none⟩ = some (.int .i64 v.til))) (by kernel_rfl) (HS _ LL3.out) (fun hHeld => ?_)
  have LL4 := LL3
  generalize w2.drew = w4 at *
  (first | (refine Reg.take 0 (v := ?_) rfl (by kernel_rfl) (by kernel_rfl) (by kernel_rfl) (fun _ _ _ h => h) (Or.inl ⟨by rfl, ?_⟩) (by assumption) ?_; rotate_left; (focus ((intro W hSW); (try dsimp only at hSW); (try go_split_ands); go_simp; (try (with_reducible rfl)); done))) | (refine Reg.take 0 (v := undef) rfl (by kernel_rfl) (by kernel_rfl) (by kernel_rfl) (fun _ _ _ h => h) (Or.inr ⟨by rfl, rfl⟩) (by assumption) ?_))
  (try simp only [Act.put, List.setIfInBounds_toArray, List.set_cons_zero, List.set_cons_succ])
  (first | (refine Reg.take 1 (v := ?_) rfl (by kernel_rfl) (by kernel_rfl) (by kernel_rfl) (fun _ _ _ h => h) (Or.inl ⟨by rfl, ?_⟩) (by assumption) ?_; rotate_left; (focus ((intro W hSW); (try dsimp only at hSW); (try go_split_ands); go_simp; (try (with_reducible rfl)); done))) | (refine Reg.take 1 (v := undef) rfl (by kernel_rfl) (by kernel_rfl) (by kernel_rfl) (fun _ _ _ h => h) (Or.inr ⟨by rfl, rfl⟩) (by assumption) ?_))
  (try simp only [Act.put, List.setIfInBounds_toArray, List.set_cons_zero, List.set_cons_succ])
  (first | (refine Reg.take 2 (v := ?_) rfl (by kernel_rfl) (by kernel_rfl) (by kernel_rfl) (fun _ _ _ h => h) (Or.inl ⟨by rfl, ?_⟩) (by assumption) ?_; rotate_left; (focus ((intro W hSW); (try dsimp only at hSW); (try go_split_ands); go_simp; (try (with_reducible rfl)); done))) | (refine Reg.take 2 (v := undef) rfl (by kernel_rfl) (by kernel_rfl) (by kernel_rfl) (fun _ _ _ h => h) (Or.inr ⟨by rfl, rfl⟩) (by assumption) ?_))
  (try simp only [Act.put, List.setIfInBounds_toArray, List.set_cons_zero, List.set_cons_succ])
  (first | (refine Reg.take 3 (v := ?_) rfl (by kernel_rfl) (by kernel_rfl) (by kernel_rfl) (fun _ _ _ h => h) (Or.inl ⟨by rfl, ?_⟩) (by assumption) ?_; rotate_left; (focus ((intro W hSW); (try dsimp only at hSW); (try go_split_ands); go_simp; (try (with_reducible rfl)); done))) | (refine Reg.take 3 (v := undef) rfl (by kernel_rfl) (by kernel_rfl) (by kernel_rfl) (fun _ _ _ h => h) (Or.inr ⟨by rfl, rfl⟩) (by assumption) ?_))
  (try simp only [Act.put, List.setIfInBounds_toArray, List.set_cons_zero, List.set_cons_succ])
  (first | (refine Reg.take 4 (v := ?_) rfl (by kernel_rfl) (by kernel_rfl) (by kernel_rfl) (fun _ _ _ h => h) (Or.inl ⟨by rfl, ?_⟩) (by assumption) ?_; rotate_left; (focus ((intro W hSW); (try dsimp only at hSW); (try go_split_ands); go_simp; (try (with_reducible rfl)); done))) | (refine Reg.take 4 (v := undef) rfl (by kernel_rfl) (by kernel_rfl) (by kernel_rfl) (fun _ _ _ h => h) (Or.inr ⟨by rfl, rfl⟩) (by assumption) ?_))
  (try simp only [Act.put, List.setIfInBounds_toArray, List.set_cons_zero, List.set_cons_succ])
  (first | (refine Reg.take 5 (v := ?_) rfl (by kernel_rfl) (by kernel_rfl) (by kernel_rfl) (fun _ _ _ h => h) (Or.inl ⟨by rfl, ?_⟩) (by assumption) ?_; rotate_left; (focus ((intro W hSW); (try dsimp only at hSW); (try go_split_ands); go_simp; (try (with_reducible rfl)); done))) | (refine Reg.take 5 (v := undef) rfl (by kernel_rfl) (by kernel_rfl) (by kernel_rfl) (fun _ _ _ h => h) (Or.inr ⟨by rfl, rfl⟩) (by assumption) ?_))
  (try simp only [Act.put, List.setIfInBounds_toArray, List.set_cons_zero, List.set_cons_succ])
  (first | (refine Reg.take 7 (v := ?_) rfl (by kernel_rfl) (by kernel_rfl) (by kernel_rfl) (fun _ _ _ h => h) (Or.inl ⟨by rfl, ?_⟩) (by assumption) ?_; rotate_left; (focus ((intro W hSW); (try dsimp only at hSW); (try go_split_ands); go_simp; (try (with_reducible rfl)); done))) | (refine Reg.take 7 (v := undef) rfl (by kernel_rfl) (by kernel_rfl) (by kernel_rfl) (fun _ _ _ h => h) (Or.inr ⟨by rfl, rfl⟩) (by assumption) ?_))
  (try simp only [Act.put, List.setIfInBounds_toArray, List.set_cons_zero, List.set_cons_succ])
  (first | (refine Reg.take 8 (v := ?_) rfl (by kernel_rfl) (by kernel_rfl) (by kernel_rfl) (fun _ _ _ h => h) (Or.inl ⟨by rfl, ?_⟩) (by assumption) ?_; rotate_left; (focus ((intro W hSW); (try dsimp only at hSW); (try go_split_ands); go_simp; (try (with_reducible rfl)); done))) | (refine Reg.take 8 (v := undef) rfl (by kernel_rfl) (by kernel_rfl) (by kernel_rfl) (fun _ _ _ h => h) (Or.inr ⟨by rfl, rfl⟩) (by assumption) ?_))
  (try simp only [Act.put, List.setIfInBounds_toArray, List.set_cons_zero, List.set_cons_succ])
  refine Reg.step2 6 9 rfl rfl (by kernel_rfl) (by rfl) (by rfl) (fun K hK => ?_) (fun K hK => ?_)
  · skip
    have m2 := (seven (D1.out.below LL4.out).box).2.2.1
    go_simp
    clear m2
    refine hK.out _ _ (HS _ LL4.out) (fun hHeldA => ?_)
    clear hK K
    (try simp only [Act.put, List.setIfInBounds_toArray, List.set_cons_zero, List.set_cons_succ])
    refine Reg.step 9 rfl (by kernel_rfl) (by rfl) (fun K hK => ?_)
    go_simp
    have bb : Below w4.heap.size w4 (w4.alloc (.cells #[.int .i64 v.key, .int .i64 v.host, .int .i64 v.epoch, .int .i64 v.til] 65)) := (Below.refl _ w4).alloc (Nat.le_refl _) _
    have LL5 := Lib.hid (LL4.out.trans (bb.mono LL4.out.size))
    have Q5 : Hid (Lea.LBox (w4.alloc (.cells #[.int .i64 v.key, .int .i64 v.host, .int .i64 v.epoch, .int .i64 v.til] 65)) w4.heap.size v) := Cells.new w4 _ _
    have QNE : Hid (∀ k, (Value.slice x.A x.n x.a).ownBlock = some k → w4.heap.size ≠ k) := fun k hk => by
      have := (Lea.OwnsL.lt (D1.out.below LL4.out).l k hk).2
      omega
    clear bb
    refine hK.out _ _ (HS _ LL5.out) (fun hHeldB => ?_)
    clear hK K
    (try simp only [Act.put, List.setIfInBounds_toArray, List.set_cons_zero, List.set_cons_succ])
    generalize w4.alloc (.cells #[.int .i64 v.key, .int .i64 v.host, .int .i64 v.epoch, .int .i64 v.til] 65) = w5 at *
    generalize w4.heap.size = pQ at *
    refine Reg.step 10 rfl (by kernel_rfl) (by rfl) (fun K hK => ?_)
    have D5 := Lib.hid (D1.out.below LL5.out)
    go_simp
    refine (Lea.insert_own D5.out.l HK1.out Q5.out QNE.out D5.out.low HN.out).mono ?_
    rintro e' w6 ⟨⟨A', a', rfl, hO, hnw⟩, hg⟩
    have P6 := Lib.hid (cells_grown' P1.out LL5.out hg (own_ne D5.out.l.1 (Lea.Cells.below P1.out LL5.out) (by decide)))
    have V6 := Lib.hid (cells_grown' V1.out LL5.out hg QV.out)
    have B6 := Lib.hid (cells_grown'' D5.out.box hg D5.out.gL)
    have OL6 := Lib.hid hO
    have OS6 := Lib.hid (Spa.OwnsL.kept D5.out.s hg (own_apart D5.out.s.1 D5.out.l.1 (by decide)))
    have OF6 := Lib.hid (OwnsF.kept D5.out.f hg (own_apart D5.out.f.1 D5.out.l.1 (by decide)))
    have M6 := Lib.hid ((Move.of_below (base := base) (g := g) (a := oL x) (b := oW x) (L1.out.trans (LL5.out.mono L1.out.size)) H0.out.low).trans (Move.rowL hg D5.out.low (fun k hk => (Lea.OwnsL.lt D5.out.l k hk).1)))
    have OB : Hid ((Value.slice A' (x.n + 1) a').ownBlock = oL x ∨ ∀ k, (Value.slice A' (x.n + 1) a').ownBlock = some k → w.heap.size ≤ k) := hnw.imp id (fun h k hk => Nat.le_trans (Nat.le_trans L1.out.size LL5.out.size) (h k hk))
    clear hO hg hnw D5 Q5 QNE
    refine hK.out _ _ ⟨Lea.Cells.cell P6.out 0, Lea.LBox.cells V6.out⟩ (fun hHeldC => ?_)
    clear hK K
    (try simp only [Act.put, List.setIfInBounds_toArray, List.set_cons_zero, List.set_cons_succ])
    (first | (refine Reg.take 11 (v := ?_) rfl (by kernel_rfl) (by kernel_rfl) (by kernel_rfl) (fun _ _ _ h => h) (Or.inl ⟨by rfl, ?_⟩) (by assumption) ?_; rotate_left; (focus ((intro W hSW); (try dsimp only at hSW); (try go_split_ands); go_simp; (try (with_reducible rfl)); done))) | (refine Reg.take 11 (v := undef) rfl (by kernel_rfl) (by kernel_rfl) (by kernel_rfl) (fun _ _ _ h => h) (Or.inr ⟨by rfl, rfl⟩) (by assumption) ?_))
    (try simp only [Act.put, List.setIfInBounds_toArray, List.set_cons_zero, List.set_cons_succ])
    (first | (refine Reg.take 12 (v := ?_) rfl (by kernel_rfl) (by kernel_rfl) (by kernel_rfl) (fun _ _ _ h => h) (Or.inl ⟨by rfl, ?_⟩) (by assumption) ?_; rotate_left; (focus ((intro W hSW); (try dsimp only at hSW); (try go_split_ands); go_simp; (try (with_reducible rfl)); done))) | (refine Reg.take 12 (v := undef) rfl (by kernel_rfl) (by kernel_rfl) (by kernel_rfl) (fun _ _ _ h => h) (Or.inr ⟨by rfl, rfl⟩) (by assumption) ?_))
    (try simp only [Act.put, List.setIfInBounds_toArray, List.set_cons_zero, List.set_cons_succ])
    (first | (refine Reg.take 13 (v := ?_) rfl (by kernel_rfl) (by kernel_rfl) (by kernel_rfl) (fun _ _ _ h => h) (Or.inl ⟨by rfl, ?_⟩) (by assumption) ?_; rotate_left; (focus ((intro W hSW); (try dsimp only at hSW); (try go_split_ands); go_simp; (try (with_reducible rfl)); done))) | (refine Reg.take 13 (v := undef) rfl (by kernel_rfl) (by kernel_rfl) (by kernel_rfl) (fun _ _ _ h => h) (Or.inr ⟨by rfl, rfl⟩) (by assumption) ?_))
    (try simp only [Act.put, List.setIfInBounds_toArray, List.set_cons_zero, List.set_cons_succ])
    (first | (refine Reg.take 14 (v := ?_) rfl (by kernel_rfl) (by kernel_rfl) (by kernel_rfl) (fun _ _ _ h => h) (Or.inl ⟨by rfl, ?_⟩) (by assumption) ?_; rotate_left; (focus ((intro W hSW); (try dsimp only at hSW); (try go_split_ands); go_simp; (try (with_reducible rfl)); done))) | (refine Reg.take 14 (v := undef) rfl (by kernel_rfl) (by kernel_rfl) (by kernel_rfl) (fun _ _ _ h => h) (Or.inr ⟨by rfl, rfl⟩) (by assumption) ?_))
    (try simp only [Act.put, List.setIfInBounds_toArray, List.set_cons_zero, List.set_cons_succ])
    refine Reg.step 15 rfl (by kernel_rfl) (by rfl) (fun K hK => ?_)
    have m2 := (seven B6.out).2.2.1
    have f2 := (seven_frozen B6.out).2.2.1
    go_simp
    clear m2 f2
    have D7 := Lib.hid (desk_setL B6.out OL6.out OS6.out OF6.out H0.out.le)
    have bt := Lea.But.set1 w6 g 2 (.slice A' (x.n + 1) a')
    have P7 := Lib.hid (Lea.Cells.but P6.out bt (cells_ne P6.out B6.out (by decide)))
    have V7 := Lib.hid (Lea.Cells.but V6.out bt (cells_ne V6.out B6.out (by decide)))
    have M7 := Lib.hid (Move.new (M6.out.trans (Move.box bt H0.out.le (Nat.le_trans H0.out.low M6.out.size))) OB.out (.inl rfl))
    clear bt
    refine hK.out _ _ ⟨Lea.Cells.cell P7.out 0, Lea.LBox.cells V7.out⟩ (fun hHeldD => ?_)
    clear hK K
    (try simp only [Act.put, List.setIfInBounds_toArray, List.set_cons_zero, List.set_cons_succ])
    refine wpAnyH_done (by kernel_rfl) ?_ _
    go_wp2_with fail
    go_end0
    refine ⟨rfl, _, ?_, D7.out, M7.out⟩
    rw [← HPT.out]
  · go_simp
    have bb : Below w4.heap.size w4 (w4.alloc (.cells #[.int .i64 v.key, .int .i64 v.host, .int .i64 v.epoch, .int .i64 v.til] 65)) := (Below.refl _ w4).alloc (Nat.le_refl _) _
    have LL5 := Lib.hid (LL4.out.trans (bb.mono LL4.out.size))
    have Q5 : Hid (Lea.LBox (w4.alloc (.cells #[.int .i64 v.key, .int .i64 v.host, .int .i64 v.epoch, .int .i64 v.til] 65)) w4.heap.size v) := Cells.new w4 _ _
    have QNE : Hid (∀ k, (Value.slice x.A x.n x.a).ownBlock = some k → w4.heap.size ≠ k) := fun k hk => by
      have := (Lea.OwnsL.lt (D1.out.below LL4.out).l k hk).2
      omega
    clear bb
    refine hK.out _ _ (HS _ LL5.out) (fun hHeldB => ?_)
    clear hK K
    (try simp only [Act.put, List.setIfInBounds_toArray, List.set_cons_zero, List.set_cons_succ])
    generalize w4.alloc (.cells #[.int .i64 v.key, .int .i64 v.host, .int .i64 v.epoch, .int .i64 v.til] 65) = w5 at *
    generalize w4.heap.size = pQ at *
    refine Reg.step 6 rfl (by kernel_rfl) (by rfl) (fun K hK => ?_)
    have m2 := (seven (D1.out.below LL5.out).box).2.2.1
    go_simp
    clear m2
    refine hK.out _ _ (HS _ LL5.out) (fun hHeldA => ?_)
    clear hK K
    (try simp only [Act.put, List.setIfInBounds_toArray, List.set_cons_zero, List.set_cons_succ])
    refine Reg.step 10 rfl (by kernel_rfl) (by rfl) (fun K hK => ?_)
    have D5 := Lib.hid (D1.out.below LL5.out)
    go_simp
    refine (Lea.insert_own D5.out.l HK1.out Q5.out QNE.out D5.out.low HN.out).mono ?_
    rintro e' w6 ⟨⟨A', a', rfl, hO, hnw⟩, hg⟩
    have P6 := Lib.hid (cells_grown' P1.out LL5.out hg (own_ne D5.out.l.1 (Lea.Cells.below P1.out LL5.out) (by decide)))
    have V6 := Lib.hid (cells_grown' V1.out LL5.out hg QV.out)
    have B6 := Lib.hid (cells_grown'' D5.out.box hg D5.out.gL)
    have OL6 := Lib.hid hO
    have OS6 := Lib.hid (Spa.OwnsL.kept D5.out.s hg (own_apart D5.out.s.1 D5.out.l.1 (by decide)))
    have OF6 := Lib.hid (OwnsF.kept D5.out.f hg (own_apart D5.out.f.1 D5.out.l.1 (by decide)))
    have M6 := Lib.hid ((Move.of_below (base := base) (g := g) (a := oL x) (b := oW x) (L1.out.trans (LL5.out.mono L1.out.size)) H0.out.low).trans (Move.rowL hg D5.out.low (fun k hk => (Lea.OwnsL.lt D5.out.l k hk).1)))
    have OB : Hid ((Value.slice A' (x.n + 1) a').ownBlock = oL x ∨ ∀ k, (Value.slice A' (x.n + 1) a').ownBlock = some k → w.heap.size ≤ k) := hnw.imp id (fun h k hk => Nat.le_trans (Nat.le_trans L1.out.size LL5.out.size) (h k hk))
    clear hO hg hnw D5 Q5 QNE
    refine hK.out _ _ ⟨Lea.Cells.cell P6.out 0, Lea.LBox.cells V6.out⟩ (fun hHeldC => ?_)
    clear hK K
    (try simp only [Act.put, List.setIfInBounds_toArray, List.set_cons_zero, List.set_cons_succ])
    (first | (refine Reg.take 11 (v := ?_) rfl (by kernel_rfl) (by kernel_rfl) (by kernel_rfl) (fun _ _ _ h => h) (Or.inl ⟨by rfl, ?_⟩) (by assumption) ?_; rotate_left; (focus ((intro W hSW); (try dsimp only at hSW); (try go_split_ands); go_simp; (try (with_reducible rfl)); done))) | (refine Reg.take 11 (v := undef) rfl (by kernel_rfl) (by kernel_rfl) (by kernel_rfl) (fun _ _ _ h => h) (Or.inr ⟨by rfl, rfl⟩) (by assumption) ?_))
    (try simp only [Act.put, List.setIfInBounds_toArray, List.set_cons_zero, List.set_cons_succ])
    (first | (refine Reg.take 12 (v := ?_) rfl (by kernel_rfl) (by kernel_rfl) (by kernel_rfl) (fun _ _ _ h => h) (Or.inl ⟨by rfl, ?_⟩) (by assumption) ?_; rotate_left; (focus ((intro W hSW); (try dsimp only at hSW); (try go_split_ands); go_simp; (try (with_reducible rfl)); done))) | (refine Reg.take 12 (v := undef) rfl (by kernel_rfl) (by kernel_rfl) (by kernel_rfl) (fun _ _ _ h => h) (Or.inr ⟨by rfl, rfl⟩) (by assumption) ?_))
    (try simp only [Act.put, List.setIfInBounds_toArray, List.set_cons_zero, List.set_cons_succ])
    (first | (refine Reg.take 13 (v := ?_) rfl (by kernel_rfl) (by kernel_rfl) (by kernel_rfl) (fun _ _ _ h => h) (Or.inl ⟨by rfl, ?_⟩) (by assumption) ?_; rotate_left; (focus ((intro W hSW); (try dsimp only at hSW); (try go_split_ands); go_simp; (try (with_reducible rfl)); done))) | (refine Reg.take 13 (v := undef) rfl (by kernel_rfl) (by kernel_rfl) (by kernel_rfl) (fun _ _ _ h => h) (Or.inr ⟨by rfl, rfl⟩) (by assumption) ?_))
    (try simp only [Act.put, List.setIfInBounds_toArray, List.set_cons_zero, List.set_cons_succ])
    (first | (refine Reg.take 14 (v := ?_) rfl (by kernel_rfl) (by kernel_rfl) (by kernel_rfl) (fun _ _ _ h => h) (Or.inl ⟨by rfl, ?_⟩) (by assumption) ?_; rotate_left; (focus ((intro W hSW); (try dsimp only at hSW); (try go_split_ands); go_simp; (try (with_reducible rfl)); done))) | (refine Reg.take 14 (v := undef) rfl (by kernel_rfl) (by kernel_rfl) (by kernel_rfl) (fun _ _ _ h => h) (Or.inr ⟨by rfl, rfl⟩) (by assumption) ?_))
    (try simp only [Act.put, List.setIfInBounds_toArray, List.set_cons_zero, List.set_cons_succ])
    refine Reg.step 15 rfl (by kernel_rfl) (by rfl) (fun K hK => ?_)
    have m2 := (seven B6.out).2.2.1
    have f2 := (seven_frozen B6.out).2.2.1
    go_simp
    clear m2 f2
    have D7 := Lib.hid (desk_setL B6.out OL6.out OS6.out OF6.out H0.out.le)
    have bt := Lea.But.set1 w6 g 2 (.slice A' (x.n + 1) a')
    have P7 := Lib.hid (Lea.Cells.but P6.out bt (cells_ne P6.out B6.out (by decide)))
    have V7 := Lib.hid (Lea.Cells.but V6.out bt (cells_ne V6.out B6.out (by decide)))
    have M7 := Lib.hid (Move.new (M6.out.trans (Move.box bt H0.out.le (Nat.le_trans H0.out.low M6.out.size))) OB.out (.inl rfl))
    clear bt
    refine hK.out _ _ ⟨Lea.Cells.cell P7.out 0, Lea.LBox.cells V7.out⟩ (fun hHeldD => ?_)
    clear hK K
    (try simp only [Act.put, List.setIfInBounds_toArray, List.set_cons_zero, List.set_cons_succ])
    refine wpAnyH_done (by kernel_rfl) ?_ _
    go_wp2_with fail
    go_end0
    refine ⟨rfl, _, ?_, D7.out, M7.out⟩
    rw [← HPT.out]
end Coo
end Go.Proofs.YtmflngclncidjaaGreat
