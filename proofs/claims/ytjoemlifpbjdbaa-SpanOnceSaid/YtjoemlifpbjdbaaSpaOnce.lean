/-
  THE STATEMENT SpanOnce: what is given changes no other block's owner, and these blocks' to the one told; taken back all of one's are no one's. For every input.
-/
import Derived.Test.YtjoemlifpbjdbaaSpaEdges
import Derived.Test.YtjoemlifpbjdbaaSpaStale
import Derived.Test.YtjoemlifpbjdbaaSpaTake
import Derived.Test.YtjoemlifpbjdbaaSpaRefChk
import Derived.BigQuiet
namespace Go.Proofs.Ytjoemlifpbjdbaa
open Go.ChangeShapes Go.WideShapes Go.ChangeAt Go.RowKit Mem
namespace Spa

theorem whoP_ex {l : List Sp} (hok : okS l = true) {k : Int} (h1 : 0 ≤ k) (h2 : k < endF 0 l) : ∃ o e, who l k = some (o, e) ∧ whoP l k = (o, e) := by
  obtain ⟨o, e, h⟩ := who_in (ok_ch hok) h1 h2
  exact ⟨o, e, h, whoP_of hok h⟩
theorem once_who {l : List Sp} {a b o e k : Int} (hr : rangeB l a b = true) (hm : mayOwn o e = true) (h1 : 0 ≤ k) (h2 : k < endF 0 l) : whoP (giveS l a b o e) k = if a ≤ k ∧ k < b then (o, e) else whoP l k := by
  obtain ⟨hok, ha, hab, hb⟩ := rangeB_iff.1 hr
  obtain ⟨hgo, -⟩ := giveS_ok (o := o) (e := e) hr hm
  obtain ⟨p, q, hw, hwp⟩ := whoP_ex hok h1 h2
  have := giveS_who (o := o) (e := e) (ok_ch hok) ha hab hb k
  split
  · rename_i hk
    rw [if_pos hk] at this
    exact whoP_of hgo this
  · rename_i hk
    rw [if_neg hk, hw] at this
    rw [hwp]; exact whoP_of hgo this
theorem take_whoP {l : List Sp} (hok : okS l = true) {o k : Int} (h1 : 0 ≤ k) (h2 : k < endF 0 l) : whoP (takeS l o) k = bif (whoP l k).1 == o then (-1, 0) else whoP l k := by
  obtain ⟨p, q, hw, hwp⟩ := whoP_ex hok h1 h2
  have := takeS_who (ok_ch hok) o k
  rw [hw] at this
  rw [hwp]
  exact whoP_of (takeS_ok hok o) this
theorem take_owned {l : List Sp} (hok : okS l = true) {o : Int} (ho : 0 ≤ o) : ownedS (takeS l o) o = 0 := by
  unfold takeS
  rw [joinS_owned ((ok_ch hok).map_ _ (freeS_at o))]
  clear hok
  induction l with
  | nil => rfl
  | cons s r ih =>
    rw [List.map_cons, ownedS_cons, ih]
    unfold partO freeS
    rcases e : (s.own == o)
    · simp only [cond_false]; rw [e]; rfl
    · simp only [cond_true]
      have : ((-1 : Int) == o) = false := by simp; omega
      rw [this]; rfl
theorem give_owned {l : List Sp} {a b o e : Int} (hr : rangeB l a b = true) : b - a ≤ ownedS (giveS l a b o e) o := by
  obtain ⟨hok, ha, hab, hb⟩ := rangeB_iff.1 hr
  unfold giveS
  rw [joinS_owned (lay_ch (ok_ch hok) ha hab hb), ownedS_app, ownedS_app, ownedS_cons, ownedS_nil]
  have h1 := (ownedS_le (partsS_ch (ok_ch hok) ha (Int.le_refl _) (by omega)) o).1
  have h2 := (ownedS_le (partsS_ch (ok_ch hok) hb (by omega) (Int.le_refl _)) o).1
  have : partO o ⟨a, b, o, e⟩ = b - a := by unfold partO; simp
  omega
theorem rowI_two {w : World} (a b : Int) {base : Nat} (hb : base ≤ w.heap.size) : Owns ci 3 base (w.alloc (.cells #[.int .i64 a, .int .i64 b] 3)) (.slice (some ⟨w.heap.size, 0, none⟩) 2 2) 2 [a, b] := Owns.made ci 3 w [a, b] (by unfold maxLen; simp) hb
theorem lastTo {l : List Sp} {n k : Nat} {x : Sp} (hl : l.length = n) (hk : n = k + 1) (hx : l[k]? = some x) : x.to = endF 0 l := (endF_last (by rw [List.getLast?_eq_getElem?, hl, hk]; simpa using hx)).symm

set_option maxRecDepth 100000 in
set_option maxHeartbeats 25600000 in
theorem spanOnce_walk {A : Option Addr} {n c : Nat} {l : List Sp} {w : World} (a b o e : Int) (h : RowL w A n c l) :
    Calls Try.prog 4 #[.slice A n c, .int .i64 a, .int .i64 b, .int .i64 o, .int .i64 e] w fun en w' => en = .returned (.bool true) ∧ Below w.heap.size w w' := by
  have HR := Lib.hid h
  have hbig := h.big
  have hlen := Lib.hid h.len
  clear h
  rcases f1 : decide ((100 : Int) < (n : Int))
  · have hn : n ≤ 100 := by have := of_decide_eq_false f1; omega
    rcases hok : okS l
    · have HC := fun w (h : RowL w A n c l) => Lib.hid (refCheck_badT h hok)
      clear hok
      go_enter Try.func4, Try.ntmps4
      go_wp2_with fail
      refine (live_any w).mono ?_
      rintro en w1 ⟨rfl, hb⟩
      have L1 := Lib.hid hb
      clear hb
      go_wp2_with fail
      refine (HC w1 (HR.out.below L1.out)).out.mono ?_
      rintro en w2 ⟨rfl, hb⟩
      have L2 := Lib.hid (L1.out.trans (hb.mono L1.out.size))
      clear hb
      go_wp2_with fail
      go_ret
      exact ⟨rfl, L2.out⟩
    · have HC := fun w (h : RowL w A n c l) => Lib.hid (refCheck_okT h hok)
      have HOK := Lib.hid hok
      have HG := fun w (h : RowL w A n c l) => Lib.hid (give_any a b o e h (by omega))
      have HGL := Lib.hid (giveS_len l a b o e)
      have hn0 : 0 < n := by
        have := (okS_iff.1 hok).2.2.1
        rcases Nat.eq_zero_or_pos n with h0 | h0
        · exact absurd (List.eq_nil_of_length_eq_zero (by rw [hlen.out, h0])) this
        · exact h0
      clear hok
      go_enter Try.func4, Try.ntmps4
      go_wp2_with fail
      refine (live_any w).mono ?_
      rintro en w1 ⟨rfl, hb⟩
      have L1 := Lib.hid hb
      clear hb
      go_wp2_with fail
      refine (HC w1 (HR.out.below L1.out)).out.mono ?_
      rintro en w2 ⟨rfl, hb⟩
      have L2 := Lib.hid (L1.out.trans (hb.mono L1.out.size))
      clear hb
      rcases giveP_cases l a b o e with ⟨hg, -⟩ | hg | ⟨hg, hr, hm⟩
      · rw [hg] at HG
        clear hg
        go_wp2_with fail
        refine (HG w2 (HR.out.below L2.out)).out.mono ?_
        rintro en w3 ⟨M, mc, rfl, hO, hb⟩
        have L3 := Lib.hid (L2.out.trans (hb.mono L2.out.size))
        clear hb hO
        go_wp2_with fail
        go_ret
        exact ⟨rfl, L3.out⟩
      · rw [hg] at HG
        clear hg
        go_wp2_with fail
        refine (HG w2 (HR.out.below L2.out)).out.mono ?_
        rintro en w3 ⟨M, mc, rfl, hO, hb⟩
        have L3 := Lib.hid (L2.out.trans (hb.mono L2.out.size))
        clear hb hO
        go_wp2_with fail
        go_ret
        exact ⟨rfl, L3.out⟩
      · rw [hg] at HG
        clear hg
        obtain ⟨hgo, hge⟩ := giveS_ok (o := o) (e := e) hr hm
        have HGO := Lib.hid hgo
        have HRNG := Lib.hid (rangeB_iff.1 hr)
        have HNL := Lib.hid (ok_le HOK.out)
        have HWHO := Lib.hid (fun k h1 h2 => once_who (k := k) hr hm h1 h2)
        have HTW := Lib.hid (fun k h1 h2 => take_whoP (o := o) (k := k) hgo h1 h2)
        have HGW := Lib.hid (give_owned (o := o) (e := e) hr)
        have HTO := Lib.hid (fun h => take_owned (o := o) hgo h)
        have HTK := Lib.hid (takeS_ok hgo o)
        have HMC := Lib.hid (ok_ch hgo)
        have HMO := Lib.hid hm
        have HGE := Lib.hid hge
        have HOL := Lib.hid (ownedS_le (ok_ch hgo) o)
        rw [hge] at HTW HMC HOL
        clear hgo hge hr hm
        generalize giveS l a b o e = ml at *
        obtain ⟨mn, hmn⟩ : ∃ q, ml.length = q := ⟨_, rfl⟩
        have hmb : mn ≤ 300 := by have := HGL.out; have := hlen.out; omega
        have hm0 : 0 < mn := by
          have := (okS_iff.1 HGO.out).2.2.1
          rcases Nat.eq_zero_or_pos mn with h0 | h0
          · exact absurd (List.eq_nil_of_length_eq_zero (by rw [hmn, h0])) this
          · exact h0
        have hmnl := Lib.hid hmn
        go_wp2_with fail
        refine (HG w2 (HR.out.below L2.out)).out.mono ?_
        rintro en w3 ⟨M, mc, rfl, hO, hb⟩
        have L3 := Lib.hid (L2.out.trans (hb.mono L2.out.size))
        have M3 := Lib.hid (OwnsL.row hO (by simp only; omega))
        clear hb hO HG
        simp only [hmn] at M3 ⊢
        clear hmn
        have hmbig : mn ≤ 140737488351232 := by omega
        -- the two ends
        obtain ⟨j, hj⟩ : ∃ j, n = j + 1 := ⟨n - 1, by omega⟩
        obtain ⟨i, hi⟩ : ∃ i, mn = i + 1 := ⟨mn - 1, by omega⟩
        obtain ⟨x, hx⟩ := (HR.out.below L3.out).get (i := j) (by omega)
        obtain ⟨y, hy⟩ := M3.out.get (i := i) (by omega)
        have hxt := lastTo hlen.out hj hx
        have hyt := lastTo hmnl.out hi hy
        rw [HGE.out] at hyt
        have HNN : Hid (0 < endF 0 l) := ok_pos HOK.out
        generalize hNN : endF 0 l = N at *
        have HNE := Lib.hid hNN
        clear hNN
        obtain ⟨g1, o1, hA, hg1, hc1⟩ := RowS.span (HR.out.below L3.out) hx
        obtain ⟨g2, o2, hM, hg2, hc2⟩ := RowS.span M3.out hy
        subst hA hM
        have HC1 := Lib.hid (fun W (hW : Below w3.heap.size w3 W) => (hc1 W (hW.block g1 hg1)).2.1)
        have HC2 := Lib.hid (fun W (hW : Below w3.heap.size w3 W) => (hc2 W (hW.block g2 hg2)).2.1)
        rw [hxt] at HC1
        rw [hyt] at HC2
        have hjw : (n : Int) - 1 = (j : Int) := by omega
        have hj0 : (0 : Int) ≤ (j : Int) := by omega
        have hjn : (j : Int) < (n : Int) := by omega
        have hjr : IntKind.i64.wrap (j : Int) = (j : Int) := by rw [IntKind.wrap_i64]; omega
        have hiw : (mn : Int) - 1 = (i : Int) := by omega
        have hi0 : (0 : Int) ≤ (i : Int) := by omega
        have hin : (i : Int) < (mn : Int) := by omega
        have hir : IntKind.i64.wrap (i : Int) = (i : Int) := by rw [IntKind.wrap_i64]; omega
        have L3d : Hid (Below w.heap.size w w3.drew) := L3.out.drew
        have M3d := Lib.hid (RowS.drew M3.out)
        have D3 : Hid (Below w3.heap.size w3 w3.drew) := (Below.refl _ _).drew
        have s1 := HC1.out _ D3.out
        have s2 := HC2.out _ D3.out
        clear hc1 hc2 hx hy hxt hyt hj hi hg1 hg2
        go_upto_region 7 with fail
        refine wp_region_held_drew (S := fun W => W.cell? ⟨g1, o1 + j * 4 + 1, none⟩ = some (.int .i64 N) ∧ W.cell? ⟨g2, o2 + i * 4 + 1, none⟩ = some (.int .i64 N)) (by kernel_rfl) ⟨s1, s2⟩ (fun hHeld => ?_)
        generalize hwd : w3.drew = w4 at *
        (first | (refine Reg.take 0 (v := ?_) rfl (by kernel_rfl) (by kernel_rfl) (by kernel_rfl) (fun _ _ _ h => h) (Or.inl ⟨by rfl, ?_⟩) (by assumption) ?_; rotate_left; (focus ((intro W hSW); (try dsimp only at hSW); (try go_split_ands); go_simp; (try (with_reducible rfl)); done))) | (refine Reg.take 0 (v := undef) rfl (by kernel_rfl) (by kernel_rfl) (by kernel_rfl) (fun _ _ _ h => h) (Or.inr ⟨by rfl, rfl⟩) (by assumption) ?_))
        (try simp only [Act.put, List.setIfInBounds_toArray, List.set_cons_zero, List.set_cons_succ])
        have HCM := Lib.hid (refCheck_okT M3d.out HGO.out)
        refine Reg.step 1 rfl (by kernel_rfl) (by rfl) (fun K hK => ?_)
        go_simp
        refine HCM.out.mono ?_
        rintro en w5 ⟨rfl, hb⟩
        have L5 := Lib.hid (L3d.out.trans (hb.mono L3d.out.size))
        have D5 : Hid (Below w3.heap.size w3 w5) := D3.out.trans (hb.mono D3.out.size)
        have M5 := Lib.hid (RowS.below M3d.out hb)
        clear hb HCM
        refine hK.out _ _ ⟨HC1.out _ D5.out, HC2.out _ D5.out⟩ (fun hHeld2 => ?_)
        clear hK K
        (try simp only [Act.put, List.setIfInBounds_toArray, List.set_cons_zero, List.set_cons_succ])
        (first | (refine Reg.take 2 (v := ?_) rfl (by kernel_rfl) (by kernel_rfl) (by kernel_rfl) (fun _ _ _ h => h) (Or.inl ⟨by rfl, ?_⟩) (by assumption) ?_; rotate_left; (focus ((intro W hSW); (try dsimp only at hSW); (try go_split_ands); go_simp; (try (with_reducible rfl)); done))) | (refine Reg.take 2 (v := undef) rfl (by kernel_rfl) (by kernel_rfl) (by kernel_rfl) (fun _ _ _ h => h) (Or.inr ⟨by rfl, rfl⟩) (by assumption) ?_))
        (try simp only [Act.put, List.setIfInBounds_toArray, List.set_cons_zero, List.set_cons_succ])
        (first | (refine Reg.take 3 (v := ?_) rfl (by kernel_rfl) (by kernel_rfl) (by kernel_rfl) (fun _ _ _ h => h) (Or.inl ⟨by rfl, ?_⟩) (by assumption) ?_; rotate_left; (focus ((intro W hSW); (try dsimp only at hSW); (try go_split_ands); go_simp; (try (with_reducible rfl)); done))) | (refine Reg.take 3 (v := undef) rfl (by kernel_rfl) (by kernel_rfl) (by kernel_rfl) (fun _ _ _ h => h) (Or.inr ⟨by rfl, rfl⟩) (by assumption) ?_))
        (try simp only [Act.put, List.setIfInBounds_toArray, List.set_cons_zero, List.set_cons_succ])
        (first | (refine Reg.take 4 (v := ?_) rfl (by kernel_rfl) (by kernel_rfl) (by kernel_rfl) (fun _ _ _ h => h) (Or.inl ⟨by rfl, ?_⟩) (by assumption) ?_; rotate_left; (focus ((intro W hSW); (try dsimp only at hSW); (try go_split_ands); go_simp; (try (with_reducible rfl)); done))) | (refine Reg.take 4 (v := undef) rfl (by kernel_rfl) (by kernel_rfl) (by kernel_rfl) (fun _ _ _ h => h) (Or.inr ⟨by rfl, rfl⟩) (by assumption) ?_))
        (try simp only [Act.put, List.setIfInBounds_toArray, List.set_cons_zero, List.set_cons_succ])
        (first | (refine Reg.take 5 (v := ?_) rfl (by kernel_rfl) (by kernel_rfl) (by kernel_rfl) (fun _ _ _ h => h) (Or.inl ⟨by rfl, ?_⟩) (by assumption) ?_; rotate_left; (focus ((intro W hSW); (try dsimp only at hSW); (try go_split_ands); go_simp; (try (with_reducible rfl)); done))) | (refine Reg.take 5 (v := undef) rfl (by kernel_rfl) (by kernel_rfl) (by kernel_rfl) (fun _ _ _ h => h) (Or.inr ⟨by rfl, rfl⟩) (by assumption) ?_))
        (try simp only [Act.put, List.setIfInBounds_toArray, List.set_cons_zero, List.set_cons_succ])
        (first | (refine Reg.take 6 (v := ?_) rfl (by kernel_rfl) (by kernel_rfl) (by kernel_rfl) (fun _ _ _ h => h) (Or.inl ⟨by rfl, ?_⟩) (by assumption) ?_; rotate_left; (focus ((intro W hSW); (try dsimp only at hSW); (try go_split_ands); go_simp; (try (with_reducible rfl)); done))) | (refine Reg.take 6 (v := undef) rfl (by kernel_rfl) (by kernel_rfl) (by kernel_rfl) (fun _ _ _ h => h) (Or.inr ⟨by rfl, rfl⟩) (by assumption) ?_))
        (try simp only [Act.put, List.setIfInBounds_toArray, List.set_cons_zero, List.set_cons_succ])
        (first | (refine Reg.take 7 (v := ?_) rfl (by kernel_rfl) (by kernel_rfl) (by kernel_rfl) (fun _ _ _ h => h) (Or.inl ⟨by rfl, ?_⟩) (by assumption) ?_; rotate_left; (focus ((intro W hSW); (try dsimp only at hSW); (try go_split_ands); go_simp; (try (with_reducible rfl)); done))) | (refine Reg.take 7 (v := undef) rfl (by kernel_rfl) (by kernel_rfl) (by kernel_rfl) (fun _ _ _ h => h) (Or.inr ⟨by rfl, rfl⟩) (by assumption) ?_))
        (try simp only [Act.put, List.setIfInBounds_toArray, List.set_cons_zero, List.set_cons_succ])
        (first | (refine Reg.take 8 (v := ?_) rfl (by kernel_rfl) (by kernel_rfl) (by kernel_rfl) (fun _ _ _ h => h) (Or.inl ⟨by rfl, ?_⟩) (by assumption) ?_; rotate_left; (focus ((intro W hSW); (try dsimp only at hSW); (try go_split_ands); go_simp; (try (with_reducible rfl)); done))) | (refine Reg.take 8 (v := undef) rfl (by kernel_rfl) (by kernel_rfl) (by kernel_rfl) (fun _ _ _ h => h) (Or.inr ⟨by rfl, rfl⟩) (by assumption) ?_))
        (try simp only [Act.put, List.setIfInBounds_toArray, List.set_cons_zero, List.set_cons_succ])
        (first | (refine Reg.take 9 (v := ?_) rfl (by kernel_rfl) (by kernel_rfl) (by kernel_rfl) (fun _ _ _ h => h) (Or.inl ⟨by rfl, ?_⟩) (by assumption) ?_; rotate_left; (focus ((intro W hSW); (try dsimp only at hSW); (try go_split_ands); go_simp; (try (with_reducible rfl)); done))) | (refine Reg.take 9 (v := undef) rfl (by kernel_rfl) (by kernel_rfl) (by kernel_rfl) (fun _ _ _ h => h) (Or.inr ⟨by rfl, rfl⟩) (by assumption) ?_))
        (try simp only [Act.put, List.setIfInBounds_toArray, List.set_cons_zero, List.set_cons_succ])
        (first | (refine Reg.take 10 (v := ?_) rfl (by kernel_rfl) (by kernel_rfl) (by kernel_rfl) (fun _ _ _ h => h) (Or.inl ⟨by rfl, ?_⟩) (by assumption) ?_; rotate_left; (focus ((intro W hSW); (try dsimp only at hSW); (try go_split_ands); go_simp; (try (with_reducible rfl)); done))) | (refine Reg.take 10 (v := undef) rfl (by kernel_rfl) (by kernel_rfl) (by kernel_rfl) (fun _ _ _ h => h) (Or.inr ⟨by rfl, rfl⟩) (by assumption) ?_))
        (try simp only [Act.put, List.setIfInBounds_toArray, List.set_cons_zero, List.set_cons_succ])
        (first | (refine Reg.take 11 (v := ?_) rfl (by kernel_rfl) (by kernel_rfl) (by kernel_rfl) (fun _ _ _ h => h) (Or.inl ⟨by rfl, ?_⟩) (by assumption) ?_; rotate_left; (focus ((intro W hSW); (try dsimp only at hSW); (try go_split_ands); go_simp; (try (with_reducible rfl)); done))) | (refine Reg.take 11 (v := undef) rfl (by kernel_rfl) (by kernel_rfl) (by kernel_rfl) (fun _ _ _ h => h) (Or.inr ⟨by rfl, rfl⟩) (by assumption) ?_))
        (try simp only [Act.put, List.setIfInBounds_toArray, List.set_cons_zero, List.set_cons_succ])
        (first | (refine Reg.take 12 (v := ?_) rfl (by kernel_rfl) (by kernel_rfl) (by kernel_rfl) (fun _ _ _ h => h) (Or.inl ⟨by rfl, ?_⟩) (by assumption) ?_; rotate_left; (focus ((intro W hSW); (try dsimp only at hSW); (try go_split_ands); go_simp; (try (with_reducible rfl)); done))) | (refine Reg.take 12 (v := undef) rfl (by kernel_rfl) (by kernel_rfl) (by kernel_rfl) (fun _ _ _ h => h) (Or.inr ⟨by rfl, rfl⟩) (by assumption) ?_))
        (try simp only [Act.put, List.setIfInBounds_toArray, List.set_cons_zero, List.set_cons_succ])
        (first | (refine Reg.take 13 (v := ?_) rfl (by kernel_rfl) (by kernel_rfl) (by kernel_rfl) (fun _ _ _ h => h) (Or.inl ⟨by rfl, ?_⟩) (by assumption) ?_; rotate_left; (focus ((intro W hSW); (try dsimp only at hSW); (try go_split_ands); go_simp; (try (with_reducible rfl)); done))) | (refine Reg.take 13 (v := undef) rfl (by kernel_rfl) (by kernel_rfl) (by kernel_rfl) (fun _ _ _ h => h) (Or.inr ⟨by rfl, rfl⟩) (by assumption) ?_))
        (try simp only [Act.put, List.setIfInBounds_toArray, List.set_cons_zero, List.set_cons_succ])
        (first | (refine Reg.take 14 (v := ?_) rfl (by kernel_rfl) (by kernel_rfl) (by kernel_rfl) (fun _ _ _ h => h) (Or.inl ⟨by rfl, ?_⟩) (by assumption) ?_; rotate_left; (focus ((intro W hSW); (try dsimp only at hSW); (try go_split_ands); go_simp; (try (with_reducible rfl)); done))) | (refine Reg.take 14 (v := undef) rfl (by kernel_rfl) (by kernel_rfl) (by kernel_rfl) (fun _ _ _ h => h) (Or.inr ⟨by rfl, rfl⟩) (by assumption) ?_))
        (try simp only [Act.put, List.setIfInBounds_toArray, List.set_cons_zero, List.set_cons_succ])
        (first | (refine Reg.take 15 (v := ?_) rfl (by kernel_rfl) (by kernel_rfl) (by kernel_rfl) (fun _ _ _ h => h) (Or.inl ⟨by rfl, ?_⟩) (by assumption) ?_; rotate_left; (focus ((intro W hSW); (try dsimp only at hSW); (try go_split_ands); go_simp; (try (with_reducible rfl)); done))) | (refine Reg.take 15 (v := undef) rfl (by kernel_rfl) (by kernel_rfl) (by kernel_rfl) (fun _ _ _ h => h) (Or.inr ⟨by rfl, rfl⟩) (by assumption) ?_))
        (try simp only [Act.put, List.setIfInBounds_toArray, List.set_cons_zero, List.set_cons_succ])
        (first | (refine Reg.take 16 (v := ?_) rfl (by kernel_rfl) (by kernel_rfl) (by kernel_rfl) (fun _ _ _ h => h) (Or.inl ⟨by rfl, ?_⟩) (by assumption) ?_; rotate_left; (focus ((intro W hSW); (try dsimp only at hSW); (try go_split_ands); go_simp; (try (with_reducible rfl)); done))) | (refine Reg.take 16 (v := undef) rfl (by kernel_rfl) (by kernel_rfl) (by kernel_rfl) (fun _ _ _ h => h) (Or.inr ⟨by rfl, rfl⟩) (by assumption) ?_))
        (try simp only [Act.put, List.setIfInBounds_toArray, List.set_cons_zero, List.set_cons_succ])
        (first | (refine Reg.take 17 (v := ?_) rfl (by kernel_rfl) (by kernel_rfl) (by kernel_rfl) (fun _ _ _ h => h) (Or.inl ⟨by rfl, ?_⟩) (by assumption) ?_; rotate_left; (focus ((intro W hSW); (try dsimp only at hSW); (try go_split_ands); go_simp; (try (with_reducible rfl)); done))) | (refine Reg.take 17 (v := undef) rfl (by kernel_rfl) (by kernel_rfl) (by kernel_rfl) (fun _ _ _ h => h) (Or.inr ⟨by rfl, rfl⟩) (by assumption) ?_))
        (try simp only [Act.put, List.setIfInBounds_toArray, List.set_cons_zero, List.set_cons_succ])
        (first | (refine Reg.take 18 (v := ?_) rfl (by kernel_rfl) (by kernel_rfl) (by kernel_rfl) (fun _ _ _ h => h) (Or.inl ⟨by rfl, ?_⟩) (by assumption) ?_; rotate_left; (focus ((intro W hSW); (try dsimp only at hSW); (try go_split_ands); go_simp; (try (with_reducible rfl)); done))) | (refine Reg.take 18 (v := undef) rfl (by kernel_rfl) (by kernel_rfl) (by kernel_rfl) (fun _ _ _ h => h) (Or.inr ⟨by rfl, rfl⟩) (by assumption) ?_))
        (try simp only [Act.put, List.setIfInBounds_toArray, List.set_cons_zero, List.set_cons_succ])
        (first | (refine Reg.take 19 (v := ?_) rfl (by kernel_rfl) (by kernel_rfl) (by kernel_rfl) (fun _ _ _ h => h) (Or.inl ⟨by rfl, ?_⟩) (by assumption) ?_; rotate_left; (focus ((intro W hSW); (try dsimp only at hSW); (try go_split_ands); go_simp; (try (with_reducible rfl)); done))) | (refine Reg.take 19 (v := undef) rfl (by kernel_rfl) (by kernel_rfl) (by kernel_rfl) (fun _ _ _ h => h) (Or.inr ⟨by rfl, rfl⟩) (by assumption) ?_))
        (try simp only [Act.put, List.setIfInBounds_toArray, List.set_cons_zero, List.set_cons_succ])
        refine wpAnyH_done (by kernel_rfl) ?_ _
        clear hHeld hHeld2 s1 s2 D3 D5 L3d M3d HC1 HC2 L3 M3 hwd
        have hlen2 := hlen
        -- the edges
        have E0 := Lib.hid (rowI_two (w := w5) a b (Nat.le_refl _))
        have E1 : Hid (Below w5.heap.size w5 (w5.alloc (.cells #[.int .i64 a, .int .i64 b] 3))) := (Below.refl _ w5).alloc (Nat.le_refl _) _
        have hED := (edges_any (base := w5.heap.size) (w := w5.alloc (.cells #[.int .i64 a, .int .i64 b] 3)) (fun W hW => HR.out.below (L5.out.trans ((E1.out.trans hW).mono L5.out.size))) HOK.out E0.out E1.out.size (by omega) (by omega) (fun q hq => by have := HRNG.out; have := HNL.out; simp at hq; rcases hq with rfl | rfl <;> omega))
        rw [HNE.out] at hED
        have HED := Lib.hid hED
        clear hED
        go_wp2_with fail
        refine HED.out.mono ?_
        rintro en w6 ⟨⟨C, q, f, zs, rfl, hq, hZ, hz⟩, hb⟩
        have L6 := Lib.hid (L5.out.trans ((E1.out.trans hb).mono L5.out.size))
        have M6 := Lib.hid (RowS.below M5.out (E1.out.trans hb))
        have Z6 := Lib.hid hZ
        have HZ6 := Lib.hid hz
        have hqb : q ≤ 140737488351232 := by omega
        clear hb hZ hz HED E0 E1 M5 L5
        go_wp2_with fail
        go_loopw [15, 16, 17, 18, 19, 85] (fun _ _ _ _ _ i wr => ∃ k : Nat, i = .int .i64 k ∧ k ≤ q ∧ Hid (Below w6.heap.size w6 wr)) (fun _ _ _ _ _ i _ => q - (intOf i).toNat)
        case atStart => exact ⟨0, rfl, by omega, Below.refl _ _⟩
        case round =>
          obtain ⟨k, rfl, hk, hH⟩ := hrel
          by_cases hlt : k < q
          · obtain ⟨z, hz⟩ := Z6.out.get hlt
            obtain ⟨g, o3, hA3, c0⟩ := (Z6.out.below hH.out).cell hz
            subst hA3
            have c0' : wr.cell? ⟨g, o3 + k, none⟩ = some (.int .i64 z) := c0
            have hzb := HZ6.out z (List.mem_of_getElem? hz)
            have hk0 : (0 : Int) ≤ (k : Int) := by omega
            have hkn : (k : Int) < (q : Int) := by omega
            have hpm := HWHO.out z hzb.1 hzb.2
            have hW1 := whose_any z (RowS.below M6.out hH.out)
            rw [hpm] at hW1
            have HW2 := fun w (h : RowL w (some ⟨g1, o1, none⟩) n c l) => Lib.hid (whose_any z h)
            have LW := Lib.hid (L6.out.trans (hH.out.mono L6.out.size))
            clear hz c0 hpm hzb
            generalize whoP l z = pl at *
            obtain ⟨po, pe⟩ := pl
            simp only at HW2
            rcases h1 : decide (a ≤ z)
            · have hc : ¬ (a ≤ z ∧ z < b) := fun h => by have := of_decide_eq_false h1; omega
              rw [if_neg hc] at hW1
              simp only at hW1
              have HW1 := Lib.hid hW1
              clear hW1 hc
              go_wp2_with fail
              refine HW1.out.mono ?_
              rintro en w7 ⟨rfl, hb⟩
              have L7 := Lib.hid (LW.out.trans (hb.mono LW.out.size))
              have N7 := Lib.hid (hH.out.trans (hb.mono hH.out.size))
              clear hb HW1
              go_wp2_with fail
              refine (HW2 w7 (HR.out.below L7.out)).out.mono ?_
              rintro en w8 ⟨rfl, hb⟩
              have N8 := Lib.hid (N7.out.trans (hb.mono N7.out.size))
              clear hb HW2
              go_wp2_with fail
              go_roundw
              case rel => exact ⟨k + 1, by go_num, by omega, N8.out⟩
              case measure => simp [intOf]; omega
            · rcases h2 : decide (z < b)
              · have hc : ¬ (a ≤ z ∧ z < b) := fun h => by have := of_decide_eq_false h2; omega
                rw [if_neg hc] at hW1
                simp only at hW1
                have HW1 := Lib.hid hW1
                clear hW1 hc
                go_wp2_with fail
                refine HW1.out.mono ?_
                rintro en w7 ⟨rfl, hb⟩
                have L7 := Lib.hid (LW.out.trans (hb.mono LW.out.size))
                have N7 := Lib.hid (hH.out.trans (hb.mono hH.out.size))
                clear hb HW1
                go_wp2_with fail
                refine (HW2 w7 (HR.out.below L7.out)).out.mono ?_
                rintro en w8 ⟨rfl, hb⟩
                have N8 := Lib.hid (N7.out.trans (hb.mono N7.out.size))
                clear hb HW2
                go_wp2_with fail
                go_roundw
                case rel => exact ⟨k + 1, by go_num, by omega, N8.out⟩
                case measure => simp [intOf]; omega
              · have hc : a ≤ z ∧ z < b := ⟨of_decide_eq_true h1, of_decide_eq_true h2⟩
                rw [if_pos hc] at hW1
                simp only at hW1
                have HW1 := Lib.hid hW1
                clear hW1 hc
                go_wp2_with fail
                refine HW1.out.mono ?_
                rintro en w7 ⟨rfl, hb⟩
                have L7 := Lib.hid (LW.out.trans (hb.mono LW.out.size))
                have N7 := Lib.hid (hH.out.trans (hb.mono hH.out.size))
                clear hb HW1
                go_wp2_with fail
                refine (HW2 w7 (HR.out.below L7.out)).out.mono ?_
                rintro en w8 ⟨rfl, hb⟩
                have N8 := Lib.hid (N7.out.trans (hb.mono N7.out.size))
                clear hb HW2
                go_wp2_with fail
                go_roundw
                case rel => exact ⟨k + 1, by go_num, by omega, N8.out⟩
                case measure => simp [intOf]; omega
          · have L9 := Lib.hid (L6.out.trans (hH.out.mono L6.out.size))
            have M9 := Lib.hid (RowS.below M6.out hH.out)
            clear hH L6 M6 Z6 HZ6 HWHO
            rcases h3 : decide (o < 0)
            · have ho0 : 0 ≤ o := by have := of_decide_eq_false h3; omega
              have hho : hostB o = true := by
                have := mayOwn_iff.1 HMO.out
                unfold hostB
                rw [decide_eq_true ho0, decide_eq_true (by omega : o < 8)]; rfl
              have HTP : Hid (takeP ml o = (takeS ml o, wereS ml o, 0)) := by show _ = _; unfold takeP; rw [HGO.out, hho]; rfl
              have hT := take_any o M9.out (by omega)
              rw [HTP.out] at hT
              have HT := Lib.hid hT
              have HTO2 := Lib.hid (HTO.out ho0)
              have HSL := Lib.hid (sumLen_were ml o)
              have HSB := Lib.hid (sumLen_take (l := wereS ml o) (fun s hs => (HMC.out.mem (List.mem_filter.1 hs).1).2.1))
              have HUL : Hid ((wereS ml o).length ≤ mn) := by show _ ≤ _; rw [← hmnl.out]; exact List.length_filter_le _ _
              have HTL : Hid ((takeS ml o).length ≤ mn) := by
                show _ ≤ _
                have := joinF_len [] (ml.map (freeS o))
                rw [← hmnl.out]
                unfold takeS joinS
                simpa using this
              clear hT hho HTO HTP
              generalize takeS ml o = tl at *
              generalize wereS ml o = ul at *
              obtain ⟨tn, htn⟩ : ∃ q, tl.length = q := ⟨_, rfl⟩
              obtain ⟨un, hun⟩ : ∃ q, ul.length = q := ⟨_, rfl⟩
              have htb : tn ≤ 300 := by rw [← htn]; have := HTL.out; omega
              have hub : un ≤ 300 := by rw [← hun]; have := HUL.out; omega
              have hull := Lib.hid hun
              have htll := Lib.hid htn
              go_wp2_with fail
              refine HT.out.mono ?_
              rintro en w10 ⟨T, tc, U, uc, rfl, hT, hU, hb⟩
              have L10 := Lib.hid (L9.out.trans (hb.mono L9.out.size))
              have M10 := Lib.hid (RowS.below M9.out hb)
              simp only [htn, hun] at hT hU ⊢
              have T10 := Lib.hid hT
              have U10 := Lib.hid hU
              clear hb hT hU HT M9 L9 htn hun
              have hubig : un ≤ 140737488351232 := by omega
              go_wp2_with fail
              generalize wr = wz at *
              go_loopw [23, 25, 132] (fun s _ i wr => ∃ (k : Nat) (u : Int), i = .int .i64 k ∧ s = .int .i64 u ∧ k ≤ un ∧ Hid (Below w10.heap.size w10 wr ∧ u = sumLen (ul.take k))) (fun _ _ i _ => un - (intOf i).toNat)
              case atStart => exact ⟨0, 0, rfl, rfl, by omega, Below.refl _ _, rfl⟩
              case round =>
                obtain ⟨k, u, rfl, rfl, hk, hH⟩ := hrel
                by_cases hlt : k < un
                · obtain ⟨x, hx⟩ := U10.out.get hlt
                  obtain ⟨g, o3, hA3, d0, d1, d2, d3⟩ := RowS.span_at (U10.out.below hH.out.1) hx
                  subst hA3
                  have hk0 : (0 : Int) ≤ (k : Int) := by omega
                  have hkn : (k : Int) < (un : Int) := by omega
                  have HS1 : Hid (sumLen (ul.take (k + 1)) = u + (x.to - x.fr)) := by
                    show _ = _
                    rw [take_snoc hx, sumLen_snoc, ← hH.out.2]
                  have hb1 := HSB.out k
                  have hb2 := HSB.out (k + 1)
                  rw [HS1.out] at hb2
                  rw [← hH.out.2] at hb1
                  rw [HSL.out] at hb1 hb2
                  have hw1 : IntKind.i64.wrap (x.to - x.fr) = x.to - x.fr := by have := HOL.out; have := HNL.out; rw [IntKind.wrap_i64]; omega
                  have hw2 : IntKind.i64.wrap (u + (x.to - x.fr)) = u + (x.to - x.fr) := by have := HOL.out; have := HNL.out; rw [IntKind.wrap_i64]; omega
                  clear hx hb1 hb2
                  have A1 : Hid (Below wr.heap.size wr (wr.alloc (.cells #[.int .i64 x.fr, .int .i64 x.to, .int .i64 x.own, .int .i64 x.ep] 32))) := (Below.refl _ wr).alloc (Nat.le_refl _) _
                  have B1 : Hid (LBox (wr.alloc (.cells #[.int .i64 x.fr, .int .i64 x.to, .int .i64 x.own, .int .i64 x.ep] 32)) wr.heap.size x) := Cells.new _ _ _
                  obtain ⟨n0, n1, n2, n3⟩ := LBox.cells B1.out
                  go_upto_region 27 with fail
                  generalize wr.alloc (.cells #[.int .i64 x.fr, .int .i64 x.to, .int .i64 x.own, .int .i64 x.ep] 32) = w11 at *
                  have N11 := Lib.hid (hH.out.1.trans (A1.out.mono hH.out.1.size))
                  clear d0 d1 d2 d3 hH A1
                  go_wp2_with fail
                  go_roundw
                  case rel => exact ⟨k + 1, u + (x.to - x.fr), by go_num, by (first | rfl | simp only [hw1, hw2]), by omega, N11.out, HS1.out.symm⟩
                  case measure => simp [intOf]; omega
                · have hkn : ul.take k = ul := List.take_of_length_le (by have := hull.out; omega)
                  have HU : Hid (u = ownedS ml o) := by show _ = _; rw [hH.out.2, hkn, HSL.out]
                  have L12 := Lib.hid (L10.out.trans (hH.out.1.mono L10.out.size))
                  have T12 := Lib.hid (RowS.below T10.out hH.out.1)
                  have M12 := Lib.hid (RowS.below M10.out hH.out.1)
                  clear hkn hH T10 M10 U10
                  have HCT := Lib.hid (refCheck_okT T12.out HTK.out)
                  have hOT := fun w (h : RowL w T tn tc tl) => owned_any o h
                  have hoT : ownedP tl o = 0 := by unfold ownedP; rw [HTK.out, cond_true]; exact HTO2.out
                  rw [hoT] at hOT
                  have HOT := fun w (h : RowL w T tn tc tl) => Lib.hid (hOT w h)
                  have hoM : ownedP ml o = u := by unfold ownedP; rw [HGO.out, cond_true]; exact HU.out.symm
                  have hOM := fun w (h : RowL w (some ⟨g2, o2, none⟩) mn mc ml) => owned_any o h
                  rw [hoM] at hOM
                  have HOM := fun w (h : RowL w (some ⟨g2, o2, none⟩) mn mc ml) => Lib.hid (hOM w h)
                  have hdw : IntKind.i64.wrap (b - a) = b - a := by have := HRNG.out; have := HNL.out; rw [IntKind.wrap_i64]; omega
                  have hdc : decide (u < b - a) = false := decide_eq_false (by have := HGW.out; have := HU.out; omega)
                  clear hOT hoT hoM hOM
                  go_wp2_with fail
                  refine HCT.out.mono ?_
                  rintro en w13 ⟨rfl, hb⟩
                  have L13 := Lib.hid (L12.out.trans (hb.mono L12.out.size))
                  have T13 := Lib.hid (RowS.below T12.out hb)
                  have M13 := Lib.hid (RowS.below M12.out hb)
                  clear hb HCT T12 M12
                  go_wp2_with fail
                  refine (HOT w13 T13.out).out.mono ?_
                  rintro en w14 ⟨rfl, hb⟩
                  have L14 := Lib.hid (L13.out.trans (hb.mono L13.out.size))
                  have T14 := Lib.hid (RowS.below T13.out hb)
                  have M14 := Lib.hid (RowS.below M13.out hb)
                  clear hb HOT T13 M13
                  go_wp2_with fail
                  refine (HOM w14 M14.out).out.mono ?_
                  rintro en w15 ⟨rfl, hb⟩
                  have L15 := Lib.hid (L14.out.trans (hb.mono L14.out.size))
                  have T15 := Lib.hid (RowS.below T14.out hb)
                  have M15 := Lib.hid (RowS.below M14.out hb)
                  clear hb HOM T14 M14
                  have hED := edges_any (base := w15.heap.size) (w := w15) (fun W hW => RowS.below M15.out hW) HGO.out (Owns.nil ci 3 w15.heap.size w15) (Nat.le_refl _) (by omega) (by omega) (by simp)
                  rw [HGE.out] at hED
                  have HED := Lib.hid hED
                  clear hED
                  go_wp2_with fail
                  refine HED.out.mono ?_
                  rintro en w16 ⟨⟨C, q2, f2, ys, rfl, hq2, hZ, hz⟩, hb⟩
                  have L16 := Lib.hid (L15.out.trans (hb.mono L15.out.size))
                  have T16 := Lib.hid (RowS.below T15.out hb)
                  have M16 := Lib.hid (RowS.below M15.out hb)
                  have Z16 := Lib.hid hZ
                  have HZ16 := Lib.hid hz
                  have hqb2 : q2 ≤ 140737488351232 := by omega
                  clear hb hZ hz HED T15 M15
                  generalize wr = wy at *
                  go_wp2_with fail
                  go_loopw [27, 28, 29, 30, 31, 174] (fun _ _ _ _ _ i wr => ∃ k : Nat, i = .int .i64 k ∧ k ≤ q2 ∧ Hid (Below w16.heap.size w16 wr)) (fun _ _ _ _ _ i _ => q2 - (intOf i).toNat)
                  case atStart => exact ⟨0, rfl, by omega, Below.refl _ _⟩
                  case round =>
                    obtain ⟨k2, rfl, hk2, hH⟩ := hrel
                    by_cases hlt2 : k2 < q2
                    · obtain ⟨z, hz⟩ := Z16.out.get hlt2
                      obtain ⟨g, o3, hA3, c0⟩ := (Z16.out.below hH.out).cell hz
                      subst hA3
                      have c0' : wr.cell? ⟨g, o3 + k2, none⟩ = some (.int .i64 z) := c0
                      have hzb := HZ16.out z (List.mem_of_getElem? hz)
                      have hk0 : (0 : Int) ≤ (k2 : Int) := by omega
                      have hkn : (k2 : Int) < (q2 : Int) := by omega
                      have hpn := HTW.out z hzb.1 hzb.2
                      have hW1 := whose_any z (RowS.below M16.out hH.out)
                      have hW2 := fun w (h : RowL w T tn tc tl) => whose_any z h
                      rw [hpn] at hW2
                      clear hz c0 hpn hzb
                      generalize whoP ml z = pm at *
                      obtain ⟨po, pe⟩ := pm
                      simp only at hW1 hW2
                      have HW1 := Lib.hid hW1
                      clear hW1
                      rcases h4 : (po == o)
                      · rw [h4] at hW2
                        simp only [cond_false] at hW2
                        have h5 : (po != o) = true := by unfold bne; rw [h4]; rfl
                        have HW2 := fun w (h : RowL w T tn tc tl) => Lib.hid (hW2 w h)
                        clear hW2
                        go_wp2_with fail
                        refine HW1.out.mono ?_
                        rintro en w17 ⟨rfl, hb⟩
                        have N17 := Lib.hid (hH.out.trans (hb.mono hH.out.size))
                        have T17 := Lib.hid (RowS.below T16.out N17.out)
                        clear hb HW1
                        go_wp2_with fail
                        refine (HW2 w17 T17.out).out.mono ?_
                        rintro en w18 ⟨rfl, hb⟩
                        have N18 := Lib.hid (N17.out.trans (hb.mono N17.out.size))
                        clear hb HW2
                        go_wp2_with fail
                        go_roundw
                        case rel => exact ⟨k2 + 1, by go_num, by omega, N18.out⟩
                        case measure => simp [intOf]; omega
                      · rw [h4] at hW2
                        simp only [cond_true] at hW2
                        have HW2 := fun w (h : RowL w T tn tc tl) => Lib.hid (hW2 w h)
                        have h5 : (po != o) = false := by unfold bne; rw [h4]; rfl
                        clear hW2
                        go_wp2_with fail
                        refine HW1.out.mono ?_
                        rintro en w17 ⟨rfl, hb⟩
                        have N17 := Lib.hid (hH.out.trans (hb.mono hH.out.size))
                        have T17 := Lib.hid (RowS.below T16.out N17.out)
                        clear hb HW1
                        go_wp2_with fail
                        refine (HW2 w17 T17.out).out.mono ?_
                        rintro en w18 ⟨rfl, hb⟩
                        have N18 := Lib.hid (N17.out.trans (hb.mono N17.out.size))
                        clear hb HW2
                        go_wp2_with fail
                        go_roundw
                        case rel => exact ⟨k2 + 1, by go_num, by omega, N18.out⟩
                        case measure => simp [intOf]; omega
                    · have L19 := Lib.hid (L16.out.trans (hH.out.mono L16.out.size))
                      clear hH
                      go_wp2_with fail
                      go_ret
                      exact ⟨rfl, L19.out⟩
            · go_wp2_with fail
              go_ret
              exact ⟨rfl, L9.out⟩
  · go_enter Try.func4, Try.ntmps4
    go_wp2_with fail
    refine (live_any w).mono ?_
    rintro en w1 ⟨rfl, hb⟩
    have L1 := Lib.hid hb
    clear hb
    go_wp2_with fail
    go_ret
    exact ⟨rfl, L1.out⟩
end Spa
end Go.Proofs.Ytjoemlifpbjdbaa
