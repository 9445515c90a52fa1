/-
  A WALK: Put. (Written by gen_cacput.py.)
-/
import Derived.Test.YtfngebikihdogaaCacGet
namespace Go.Proofs.Ytfngebikihdogaa
open Go.RowKit Mem Box GM
namespace Cac
theorem TextAt.open {w : World} {A : Option Addr} {l : List (BitVec 8)} (h : TextAt w A l) : ∃ q t0 t1 t2 t3 t4 t5 t6 t7 t8 t9 t10 t11 t12 t13 t14 t15, A = some ⟨q, 0, none⟩ ∧ Cells w q 5 #[t0, t1, t2, t3, t4, t5, t6, t7, t8, t9, t10, t11, t12, t13, t14, t15] ∧ l.length = 16 ∧ ∀ (j : Nat) (y : BitVec 8), l[j]? = some y → (#[t0, t1, t2, t3, t4, t5, t6, t7, t8, t9, t10, t11, t12, t13, t14, t15] : Array Value)[j]? = some (cb y) := by
  obtain ⟨q, cs, rfl, hc, hs, hl, ht⟩ := h
  obtain ⟨k⟩ := cs
  have hk : k.length = 16 := hs
  match k, hk with
  | [t0, t1, t2, t3, t4, t5, t6, t7, t8, t9, t10, t11, t12, t13, t14, t15], _ => exact ⟨q, t0, t1, t2, t3, t4, t5, t6, t7, t8, t9, t10, t11, t12, t13, t14, t15, rfl, hc, hl, ht⟩
theorem node_new {w : World} {n v : Int} {l : List (BitVec 8)} {t0 t1 t2 t3 t4 t5 t6 t7 t8 t9 t10 t11 t12 t13 t14 t15 : Value} (hl : l.length = 16) (ht : ∀ (j : Nat) (y : BitVec 8), l[j]? = some y → (#[t0, t1, t2, t3, t4, t5, t6, t7, t8, t9, t10, t11, t12, t13, t14, t15] : Array Value)[j]? = some (cb y)) : Node (w.alloc (.cells #[.int .i64 n, .int .i64 v, t0, t1, t2, t3, t4, t5, t6, t7, t8, t9, t10, t11, t12, t13, t14, t15, .pointer none, .pointer none] 61)) w.heap.size ⟨n, v, l⟩ none none := by
  refine ⟨_, Cells.new w _ _, rfl, rfl, rfl, hl, fun i y hy => ?_, rfl, rfl⟩
  have hi : i < 16 := by have := (List.getElem?_eq_some_iff.1 hy).1; rwa [hl] at this
  rw [← ht i y hy]
  match i, hi with
  | 0, _ | 1, _ | 2, _ | 3, _ | 4, _ | 5, _ | 6, _ | 7, _ | 8, _ | 9, _ | 10, _ | 11, _ | 12, _ | 13, _ | 14, _ | 15, _ => rfl
  | i + 16, h => omega
theorem run_array16 (q : Nat) (w : World) : (Instr.arrayAt 59 (.slice (some ⟨q, 0, none⟩) 16 16)).run Try.prog w = .ok (.pointer (some ⟨q, 0, none⟩)) w := by
  simp [Instr.arrayAt, run_underlying Try.underlying59]
set_option maxRecDepth 100000 in
set_option maxHeartbeats 3200000 in
theorem put_bad {g : Nat} {n v : Int} {A : Option Addr} {w : World} (hb : n < 0 ∨ v < 0) :
    Calls Try.prog 9 #[.pointer (some ⟨g, 0, none⟩), .int .i64 n, .int .i64 v, .slice A 16 16] w fun e w' => e = .returned (.int .i64 1) ∧ w' = w := by
  rcases e1 : decide (n < 0)
  · rcases e2 : decide (v < 0)
    · exact absurd hb (by have := of_decide_eq_false e1; have := of_decide_eq_false e2; omega)
    · clear hb
      go_enter Try.func9, Try.ntmps9
      go_wp2_with fail
      go_ret
      exact ⟨rfl, rfl⟩
  · clear hb
    go_enter Try.func9, Try.ntmps9
    go_wp2_with fail
    go_ret
    exact ⟨rfl, rfl⟩
set_option maxRecDepth 100000 in
set_option maxHeartbeats 3200000 in
theorem put_zero {w : World} {g r : Nat} {h s : Int} {ns : List Nd} {n v : Int} {A : Option Addr} (H : CacheAt w g r 0 ns h s) (hn : 0 ≤ n) (hv : 0 ≤ v) :
    Calls Try.prog 9 #[.pointer (some ⟨g, 0, none⟩), .int .i64 n, .int .i64 v, .slice A 16 16] w fun e w' => e = .returned (.int .i64 0) ∧ w' = w := by
  have e1 : decide (n < 0) = false := decide_eq_false (by omega)
  have e2 : decide (v < 0) = false := decide_eq_false (by omega)
  have HA := fun w => Lib.hid (asked_any g w)
  have hget := run_at_get H.map n
  obtain ⟨nb, hnb⟩ : ∃ o : Option Addr, ptr ((who ns n).map (·.1)) = .pointer o := ⟨_, rfl⟩
  rw [hnb] at hget
  have c1 := H.dl.head.cells.2.1
  have c0 := H.dl.head.cells.1
  clear H hn hv hnb
  go_enter Try.func9, Try.ntmps9
  go_wp2_with fail
  refine (HA _).out.mono ?_
  rintro e w1 ⟨rfl, hw⟩
  obtain rfl := hw.symm
  clear HA
  go_wp2_with fail
  go_ret
  exact ⟨rfl, rfl⟩
set_option maxRecDepth 100000 in
set_option maxHeartbeats 3200000 in
theorem put_old {w : World} {g r : Nat} {m h s : Int} {ns : List Nd} {n v : Int} {A : Option Addr} {y : Nd} (H : CacheAt w g r m ns h s) (hm : m ≠ 0) (hn : 0 ≤ n) (hv : 0 ≤ v) (hy : who ns n = some y) (hgt : v < y.2.ver) :
    Calls Try.prog 9 #[.pointer (some ⟨g, 0, none⟩), .int .i64 n, .int .i64 v, .slice A 16 16] w fun e w' => e = .returned (.int .i64 0) ∧ w' = w := by
  have e1 : decide (n < 0) = false := decide_eq_false (by omega)
  have e2 : decide (v < 0) = false := decide_eq_false (by omega)
  have e3 : (m == 0) = false := by simpa using hm
  have e4 : decide (v < y.2.ver) = true := decide_eq_true hgt
  have HA := fun w => Lib.hid (asked_any g w)
  have hget := run_at_get H.map n
  rw [hy] at hget
  replace hget : (Instr.lookup 49 (.map (some r)) (.int .i64 n) false).run Try.prog w = .ok (.pointer (some ⟨y.1, 0, none⟩)) w := hget
  obtain ⟨a, b, hab⟩ := List.append_of_mem (who_some hy).1
  have cv := (Seg.node (p := y.1) (x := y.2) (a := a) (b := b) (nxt := none) (by have := H.dl.seg; rw [hab] at this; exact this)).cells.2.1
  have c1 := H.dl.head.cells.2.1
  have c0 := H.dl.head.cells.1
  clear H hn hv hy hab hm hgt
  go_enter Try.func9, Try.ntmps9
  go_wp2_with fail
  refine (HA _).out.mono ?_
  rintro e w1 ⟨rfl, hw⟩
  obtain rfl := hw.symm
  clear HA
  go_wp2_with fail
  go_ret
  exact ⟨rfl, rfl⟩
/-! ### A new one -/
/-- The ones that are there behind a Put: one more, and the oldest of too many gone. -/
def cutM (m : Int) (l : List Nd) : List Nd := if m < l.length then l.dropLast else l
theorem cutM_sub (m : Int) (l : List Nd) : (cutM m l).Sublist l := by
  unfold cutM
  split
  · exact List.dropLast_sublist l
  · exact List.Sublist.refl l
/-- What Put of something new gives. -/
def PutNew (g r : Nat) (m h s : Int) (ns1 : List Nd) (x : Kv) (w w' : World) (en : Ending) : Prop := en = .returned (.int .i64 0) ∧ ∃ p, CacheAt w' g r m (cutM m ((p, x) :: ns1)) h s ∧ w.heap.size ≤ p ∧ Mov (foot g r ns1) w w' ∧ p < w'.heap.size
set_option maxRecDepth 100000 in
set_option maxHeartbeats 6400000 in
theorem put_none {w : World} {g r : Nat} {m h s : Int} {ns : List Nd} {n v : Int} {A : Option Addr} {l : List (BitVec 8)} (H : CacheAt w g r m ns h s) (hm : m ≠ 0) (hn : 0 ≤ n) (hv : 0 ≤ v) (hy : who ns n = none) (hT : TextAt w A l) :
    Calls Try.prog 9 #[.pointer (some ⟨g, 0, none⟩), .int .i64 n, .int .i64 v, .slice A 16 16] w fun e w' => PutNew g r m h s ns ⟨n, v, l⟩ w w' e := by
  have e1 : decide (n < 0) = false := decide_eq_false (by omega)
  have e2 : decide (v < 0) = false := decide_eq_false (by omega)
  have e3 : (m == 0) = false := by simpa using hm
  have HA := fun w => Lib.hid (asked_any g w)
  have hget := run_at_get H.map n
  rw [hy] at hget
  replace hget : (Instr.lookup 49 (.map (some r)) (.int .i64 n) false).run Try.prog w = .ok (.pointer none) w := hget
  have c1 := H.dl.head.cells.2.1
  have c0 := H.dl.head.cells.1
  have CW := Lib.hid H
  have TW := Lib.hid hT
  have HNK := Lib.hid (who_none.1 hy)
  have VW := Lib.hid (Mov.refl (foot g r ns) w)
  clear H hn hv hm hy hT
  go_enter Try.func9, Try.ntmps9
  go_wp2_with fail
  refine (HA _).out.mono ?_
  rintro e w1 ⟨rfl, hw⟩
  obtain rfl := hw.symm
  clear HA
  go_upto_region 9 with fail
  clear hget c0 c1
  obtain ⟨q, t0, t1, t2, t3, t4, t5, t6, t7, t8, t9, t10, t11, t12, t13, t14, t15, rfl, hTc, hTl, hTt⟩ := TW.out.open
  have harr := run_array16 q
  have d0 : w.cell? ⟨q, 0, none⟩ = some t0 := hTc.cell 0
  have d1 : w.cell? ⟨q, 1, none⟩ = some t1 := hTc.cell 1
  have d2 : w.cell? ⟨q, 2, none⟩ = some t2 := hTc.cell 2
  have d3 : w.cell? ⟨q, 3, none⟩ = some t3 := hTc.cell 3
  have d4 : w.cell? ⟨q, 4, none⟩ = some t4 := hTc.cell 4
  have d5 : w.cell? ⟨q, 5, none⟩ = some t5 := hTc.cell 5
  have d6 : w.cell? ⟨q, 6, none⟩ = some t6 := hTc.cell 6
  have d7 : w.cell? ⟨q, 7, none⟩ = some t7 := hTc.cell 7
  have d8 : w.cell? ⟨q, 8, none⟩ = some t8 := hTc.cell 8
  have d9 : w.cell? ⟨q, 9, none⟩ = some t9 := hTc.cell 9
  have d10 : w.cell? ⟨q, 10, none⟩ = some t10 := hTc.cell 10
  have d11 : w.cell? ⟨q, 11, none⟩ = some t11 := hTc.cell 11
  have d12 : w.cell? ⟨q, 12, none⟩ = some t12 := hTc.cell 12
  have d13 : w.cell? ⟨q, 13, none⟩ = some t13 := hTc.cell 13
  have d14 : w.cell? ⟨q, 14, none⟩ = some t14 := hTc.cell 14
  have d15 : w.cell? ⟨q, 15, none⟩ = some t15 := hTc.cell 15
  have N9 : Hid (Node (w.alloc (.cells #[.int .i64 n, .int .i64 v, t0, t1, t2, t3, t4, t5, t6, t7, t8, t9, t10, t11, t12, t13, t14, t15, .pointer none, .pointer none] 61)) w.heap.size ⟨n, v, l⟩ none none) := node_new hTl hTt
  have B9 : Hid (Below w.heap.size w (w.alloc (.cells #[.int .i64 n, .int .i64 v, t0, t1, t2, t3, t4, t5, t6, t7, t8, t9, t10, t11, t12, t13, t14, t15, .pointer none, .pointer none] 61))) := (Below.refl _ _).alloc (Nat.le_refl _) _
  have C9 := Lib.hid (CW.out.below B9.out)
  clear hTc hTl hTt
  go_upto_region 10 with fail
  generalize w.alloc (.cells #[.int .i64 n, .int .i64 v, t0, t1, t2, t3, t4, t5, t6, t7, t8, t9, t10, t11, t12, t13, t14, t15, .pointer none, .pointer none] 61) = w9 at *
  clear d0 d1 d2 d3 d4 d5 d6 d7 d8 d9 d10 d11 d12 d13 d14 d15 harr
  obtain ⟨p, hp⟩ : ∃ p : Nat, p = w.heap.size := ⟨_, rfl⟩
  have HPP := Lib.hid hp
  rw [← hp] at N9 ⊢
  clear hp
  have hpn : Hid (p ∉ foot g r ns) := fun hm => by have := CW.out.lt p hm; have := HPP.out; omega
  have c1 := C9.out.dl.head.cells.2.1
  obtain ⟨w10, hput, hA10, hV10, hz10⟩ := run_at_put C9.out.map (p := p) (x := ⟨n, v, l⟩) HNK.out
  replace hput : (Instr.mapUpdate 49 (.map (some r)) (.int .i64 n) (.pointer (some ⟨p, 0, none⟩))).run Try.prog w9 = .ok () w10 := hput
  have hrf : r ∉ g :: blk ns := nodup_blk C9.out
  have D10 := Lib.hid (C9.out.dl.keep fun q hq => hV10.block q (C9.out.dl.lt q hq) (by simp only [List.mem_singleton]; rintro rfl; exact hrf hq))
  have N10 := Lib.hid (N9.out.keep (hV10.block p N9.out.lt (by simp only [List.mem_singleton]; rintro rfl; exact hpn.out (by simp [foot]))))
  have A10 := Lib.hid hA10
  have V10 : Hid (Mov (foot g r ns) w w10) := (VW.out.trans (Mov.of_below (foot g r ns) B9.out) (fun x hx => .inl hx)).trans hV10 (by simp [foot])
  have Z10 : Hid (p < w10.heap.size) := by show _ < _; have := N9.out.lt; omega
  have HP := Lib.hid (putFirst_any D10.out N10.out (fun hm => hpn.out (List.mem_cons_of_mem _ (List.mem_cons_of_mem _ hm))))
  clear hA10 hV10 hz10 hrf
  go_upto_region 11 with fail
  clear hput c1
  go_wp2_with fail
  refine HP.out.mono ?_
  rintro e w11 ⟨rfl, hD11, hV11, hz11⟩
  have A11 : Hid (At w11 r ((p, ⟨n, v, l⟩) :: ns)) := A10.out.keep (hV11.block r A10.out.lt fun hm => by
    rcases List.mem_cons.1 hm with e | hm
    · exact nodup_blk C9.out (e ▸ List.mem_cons_self)
    · rcases List.mem_cons.1 hm with e | hm
      · exact hpn.out (by rw [← e]; simp [foot])
      · exact nodup_blk C9.out (List.mem_cons_of_mem _ hm))
  have C11 : Hid (CacheAt w11 g r m ((p, ⟨n, v, l⟩) :: ns) h s) := ⟨hD11, A11.out, List.nodup_cons.2 ⟨HNK.out, CW.out.keys⟩⟩
  have hpw : w.heap.size ≤ p := by have := VW.out.size; have := HPP.out; omega
  have V11 : Hid (Mov (foot g r ns) w w11) := V10.out.trans hV11 (fun x hx => by
    rcases List.mem_cons.1 hx with e | hx
    · exact .inl (by rw [e]; exact List.mem_cons_self)
    · rcases List.mem_cons.1 hx with e | hx
      · exact .inr (by rw [e]; exact hpw)
      · exact .inl (List.mem_cons_of_mem _ (List.mem_cons_of_mem _ hx)))
  have Z11 : Hid (p < w11.heap.size) := by show _ < _; have := Z10.out; omega
  have HPW := Lib.hid hpw
  clear hD11 hV11 hz11 HP hpw
  go_upto_region 12 with fail
  have C12 := Lib.hid C11.out.drew
  have V12 : Hid (Mov (foot g r ns) w w11.drew) := V11.out.trans (Mov.drew (foot g r ns) w11) (fun x hx => .inl hx)
  have Z12 : Hid (p < w11.drew.heap.size) := Z11.out
  obtain ⟨kk, hkk⟩ : ∃ k : Nat, k = (((p, ⟨n, v, l⟩) :: ns : List Nd)).length := ⟨_, rfl⟩
  have HKK := Lib.hid hkk
  have hlen : ∀ ty, (Builtin.len_ #[49] ty #[.map (some r)]).run Try.prog w11.drew = .ok (.int .i64 (kk : Int)) w11.drew := by rw [hkk]; exact run_at_len C12.out.map
  have CC : w11.drew.cell? ⟨g, 0, none⟩ = some (.int .i64 m) ∧ w11.drew.cell? ⟨g, 1, none⟩ = some (.map (some r)) := ⟨C12.out.dl.head.cells.1, C12.out.dl.head.cells.2.1⟩
  clear hkk
  rcases e5 : decide (m < (kk : Int))
  · refine wp_region_held_drew (S := fun W => W = w11.drew) (by kernel_rfl) rfl (fun hHeld => ?_)
    (first | (refine Reg.take 0 (v := ?_) rfl (by kernel_rfl) (by kernel_rfl) (by kernel_rfl) (fun _ _ _ h => h) (Or.inl ⟨by rfl, ?_⟩) (by assumption) ?_; rotate_left; (focus ((intro W hSW); (try dsimp only at hSW); (try go_split_ands); go_simp; (try (with_reducible rfl)); done))) | (refine Reg.take 0 (v := undef) rfl (by kernel_rfl) (by kernel_rfl) (by kernel_rfl) (fun _ _ _ h => h) (Or.inr ⟨by rfl, rfl⟩) (by assumption) ?_))
    (try simp only [Act.put, List.setIfInBounds_toArray, List.set_cons_zero, List.set_cons_succ])
    (first | (refine Reg.take 1 (v := ?_) rfl (by kernel_rfl) (by kernel_rfl) (by kernel_rfl) (fun _ _ _ h => h) (Or.inl ⟨by rfl, ?_⟩) (by assumption) ?_; rotate_left; (focus ((intro W hSW); (try dsimp only at hSW); (try go_split_ands); go_simp; (try (with_reducible rfl)); done))) | (refine Reg.take 1 (v := undef) rfl (by kernel_rfl) (by kernel_rfl) (by kernel_rfl) (fun _ _ _ h => h) (Or.inr ⟨by rfl, rfl⟩) (by assumption) ?_))
    (try simp only [Act.put, List.setIfInBounds_toArray, List.set_cons_zero, List.set_cons_succ])
    (first | (refine Reg.take 2 (v := ?_) rfl (by kernel_rfl) (by kernel_rfl) (by kernel_rfl) (fun _ _ _ h => h) (Or.inl ⟨by rfl, ?_⟩) (by assumption) ?_; rotate_left; (focus ((intro W hSW); (try dsimp only at hSW); (try go_split_ands); go_simp; (try (with_reducible rfl)); done))) | (refine Reg.take 2 (v := undef) rfl (by kernel_rfl) (by kernel_rfl) (by kernel_rfl) (fun _ _ _ h => h) (Or.inr ⟨by rfl, rfl⟩) (by assumption) ?_))
    (try simp only [Act.put, List.setIfInBounds_toArray, List.set_cons_zero, List.set_cons_succ])
    (first | (refine Reg.take 3 (v := ?_) rfl (by kernel_rfl) (by kernel_rfl) (by kernel_rfl) (fun _ _ _ h => h) (Or.inl ⟨by rfl, ?_⟩) (by assumption) ?_; rotate_left; (focus ((intro W hSW); (try dsimp only at hSW); (try go_split_ands); go_simp; (try (with_reducible rfl)); done))) | (refine Reg.take 3 (v := undef) rfl (by kernel_rfl) (by kernel_rfl) (by kernel_rfl) (fun _ _ _ h => h) (Or.inr ⟨by rfl, rfl⟩) (by assumption) ?_))
    (try simp only [Act.put, List.setIfInBounds_toArray, List.set_cons_zero, List.set_cons_succ])
    (first | (refine Reg.take 5 (v := ?_) rfl (by kernel_rfl) (by kernel_rfl) (by kernel_rfl) (fun _ _ _ h => h) (Or.inl ⟨by rfl, ?_⟩) (by assumption) ?_; rotate_left; (focus ((intro W hSW); (try dsimp only at hSW); (try go_split_ands); go_simp; (try (with_reducible rfl)); done))) | (refine Reg.take 5 (v := undef) rfl (by kernel_rfl) (by kernel_rfl) (by kernel_rfl) (fun _ _ _ h => h) (Or.inr ⟨by rfl, rfl⟩) (by assumption) ?_))
    (try simp only [Act.put, List.setIfInBounds_toArray, List.set_cons_zero, List.set_cons_succ])
    (first | (refine Reg.take 6 (v := ?_) rfl (by kernel_rfl) (by kernel_rfl) (by kernel_rfl) (fun _ _ _ h => h) (Or.inl ⟨by rfl, ?_⟩) (by assumption) ?_; rotate_left; (focus ((intro W hSW); (try dsimp only at hSW); (try go_split_ands); go_simp; (try (with_reducible rfl)); done))) | (refine Reg.take 6 (v := undef) rfl (by kernel_rfl) (by kernel_rfl) (by kernel_rfl) (fun _ _ _ h => h) (Or.inr ⟨by rfl, rfl⟩) (by assumption) ?_))
    (try simp only [Act.put, List.setIfInBounds_toArray, List.set_cons_zero, List.set_cons_succ])
    (first | (refine Reg.take 7 (v := ?_) rfl (by kernel_rfl) (by kernel_rfl) (by kernel_rfl) (fun _ _ _ h => h) (Or.inl ⟨by rfl, ?_⟩) (by assumption) ?_; rotate_left; (focus ((intro W hSW); (try dsimp only at hSW); (try go_split_ands); go_simp; (try (with_reducible rfl)); done))) | (refine Reg.take 7 (v := undef) rfl (by kernel_rfl) (by kernel_rfl) (by kernel_rfl) (fun _ _ _ h => h) (Or.inr ⟨by rfl, rfl⟩) (by assumption) ?_))
    (try simp only [Act.put, List.setIfInBounds_toArray, List.set_cons_zero, List.set_cons_succ])
    (first | (refine Reg.take 8 (v := ?_) rfl (by kernel_rfl) (by kernel_rfl) (by kernel_rfl) (fun _ _ _ h => h) (Or.inl ⟨by rfl, ?_⟩) (by assumption) ?_; rotate_left; (focus ((intro W hSW); (try dsimp only at hSW); (try go_split_ands); go_simp; (try (with_reducible rfl)); done))) | (refine Reg.take 8 (v := undef) rfl (by kernel_rfl) (by kernel_rfl) (by kernel_rfl) (fun _ _ _ h => h) (Or.inr ⟨by rfl, rfl⟩) (by assumption) ?_))
    (try simp only [Act.put, List.setIfInBounds_toArray, List.set_cons_zero, List.set_cons_succ])
    (first | (refine Reg.take 4 (v := ?_) rfl (by kernel_rfl) (by kernel_rfl) (by kernel_rfl) (fun _ _ _ h => h) (Or.inl ⟨by rfl, ?_⟩) (by assumption) ?_; rotate_left; (focus ((intro W hSW); (try dsimp only at hSW); (try go_split_ands); go_simp; (try (with_reducible rfl)); done))) | (refine Reg.take 4 (v := undef) rfl (by kernel_rfl) (by kernel_rfl) (by kernel_rfl) (fun _ _ _ h => h) (Or.inr ⟨by rfl, rfl⟩) (by assumption) ?_))
    (try simp only [Act.put, List.setIfInBounds_toArray, List.set_cons_zero, List.set_cons_succ])
    (first | (refine Reg.take 9 (v := ?_) rfl (by kernel_rfl) (by kernel_rfl) (by kernel_rfl) (fun _ _ _ h => h) (Or.inl ⟨by rfl, ?_⟩) (by assumption) ?_; rotate_left; (focus ((intro W hSW); (try dsimp only at hSW); (try go_split_ands); go_simp; (try (with_reducible rfl)); done))) | (refine Reg.take 9 (v := undef) rfl (by kernel_rfl) (by kernel_rfl) (by kernel_rfl) (fun _ _ _ h => h) (Or.inr ⟨by rfl, rfl⟩) (by assumption) ?_))
    (try simp only [Act.put, List.setIfInBounds_toArray, List.set_cons_zero, List.set_cons_succ])
    refine wpAnyH_done (by kernel_rfl) ?_ _
    clear hHeld hlen CC
    go_wp2_with fail
    go_ret
    have hcut : cutM m ((p, ⟨n, v, l⟩) :: ns) = (p, ⟨n, v, l⟩) :: ns := by
      unfold cutM
      rw [if_neg (by have := of_decide_eq_false e5; rw [HKK.out] at this; exact this)]
    exact ⟨rfl, p, by rw [hcut]; exact C12.out, HPW.out, V12.out, Z12.out⟩
  · refine wp_region_held_drew (S := fun W => W = w11.drew) (by kernel_rfl) rfl (fun hHeld => ?_)
    (first | (refine Reg.take 0 (v := ?_) rfl (by kernel_rfl) (by kernel_rfl) (by kernel_rfl) (fun _ _ _ h => h) (Or.inl ⟨by rfl, ?_⟩) (by assumption) ?_; rotate_left; (focus ((intro W hSW); (try dsimp only at hSW); (try go_split_ands); go_simp; (try (with_reducible rfl)); done))) | (refine Reg.take 0 (v := undef) rfl (by kernel_rfl) (by kernel_rfl) (by kernel_rfl) (fun _ _ _ h => h) (Or.inr ⟨by rfl, rfl⟩) (by assumption) ?_))
    (try simp only [Act.put, List.setIfInBounds_toArray, List.set_cons_zero, List.set_cons_succ])
    (first | (refine Reg.take 1 (v := ?_) rfl (by kernel_rfl) (by kernel_rfl) (by kernel_rfl) (fun _ _ _ h => h) (Or.inl ⟨by rfl, ?_⟩) (by assumption) ?_; rotate_left; (focus ((intro W hSW); (try dsimp only at hSW); (try go_split_ands); go_simp; (try (with_reducible rfl)); done))) | (refine Reg.take 1 (v := undef) rfl (by kernel_rfl) (by kernel_rfl) (by kernel_rfl) (fun _ _ _ h => h) (Or.inr ⟨by rfl, rfl⟩) (by assumption) ?_))
    (try simp only [Act.put, List.setIfInBounds_toArray, List.set_cons_zero, List.set_cons_succ])
    (first | (refine Reg.take 2 (v := ?_) rfl (by kernel_rfl) (by kernel_rfl) (by kernel_rfl) (fun _ _ _ h => h) (Or.inl ⟨by rfl, ?_⟩) (by assumption) ?_; rotate_left; (focus ((intro W hSW); (try dsimp only at hSW); (try go_split_ands); go_simp; (try (with_reducible rfl)); done))) | (refine Reg.take 2 (v := undef) rfl (by kernel_rfl) (by kernel_rfl) (by kernel_rfl) (fun _ _ _ h => h) (Or.inr ⟨by rfl, rfl⟩) (by assumption) ?_))
    (try simp only [Act.put, List.setIfInBounds_toArray, List.set_cons_zero, List.set_cons_succ])
    (first | (refine Reg.take 3 (v := ?_) rfl (by kernel_rfl) (by kernel_rfl) (by kernel_rfl) (fun _ _ _ h => h) (Or.inl ⟨by rfl, ?_⟩) (by assumption) ?_; rotate_left; (focus ((intro W hSW); (try dsimp only at hSW); (try go_split_ands); go_simp; (try (with_reducible rfl)); done))) | (refine Reg.take 3 (v := undef) rfl (by kernel_rfl) (by kernel_rfl) (by kernel_rfl) (fun _ _ _ h => h) (Or.inr ⟨by rfl, rfl⟩) (by assumption) ?_))
    (try simp only [Act.put, List.setIfInBounds_toArray, List.set_cons_zero, List.set_cons_succ])
    (first | (refine Reg.take 5 (v := ?_) rfl (by kernel_rfl) (by kernel_rfl) (by kernel_rfl) (fun _ _ _ h => h) (Or.inl ⟨by rfl, ?_⟩) (by assumption) ?_; rotate_left; (focus ((intro W hSW); (try dsimp only at hSW); (try go_split_ands); go_simp; (try (with_reducible rfl)); done))) | (refine Reg.take 5 (v := undef) rfl (by kernel_rfl) (by kernel_rfl) (by kernel_rfl) (fun _ _ _ h => h) (Or.inr ⟨by rfl, rfl⟩) (by assumption) ?_))
    (try simp only [Act.put, List.setIfInBounds_toArray, List.set_cons_zero, List.set_cons_succ])
    (first | (refine Reg.take 6 (v := ?_) rfl (by kernel_rfl) (by kernel_rfl) (by kernel_rfl) (fun _ _ _ h => h) (Or.inl ⟨by rfl, ?_⟩) (by assumption) ?_; rotate_left; (focus ((intro W hSW); (try dsimp only at hSW); (try go_split_ands); go_simp; (try (with_reducible rfl)); done))) | (refine Reg.take 6 (v := undef) rfl (by kernel_rfl) (by kernel_rfl) (by kernel_rfl) (fun _ _ _ h => h) (Or.inr ⟨by rfl, rfl⟩) (by assumption) ?_))
    (try simp only [Act.put, List.setIfInBounds_toArray, List.set_cons_zero, List.set_cons_succ])
    (first | (refine Reg.take 7 (v := ?_) rfl (by kernel_rfl) (by kernel_rfl) (by kernel_rfl) (fun _ _ _ h => h) (Or.inl ⟨by rfl, ?_⟩) (by assumption) ?_; rotate_left; (focus ((intro W hSW); (try dsimp only at hSW); (try go_split_ands); go_simp; (try (with_reducible rfl)); done))) | (refine Reg.take 7 (v := undef) rfl (by kernel_rfl) (by kernel_rfl) (by kernel_rfl) (fun _ _ _ h => h) (Or.inr ⟨by rfl, rfl⟩) (by assumption) ?_))
    (try simp only [Act.put, List.setIfInBounds_toArray, List.set_cons_zero, List.set_cons_succ])
    (first | (refine Reg.take 8 (v := ?_) rfl (by kernel_rfl) (by kernel_rfl) (by kernel_rfl) (fun _ _ _ h => h) (Or.inl ⟨by rfl, ?_⟩) (by assumption) ?_; rotate_left; (focus ((intro W hSW); (try dsimp only at hSW); (try go_split_ands); go_simp; (try (with_reducible rfl)); done))) | (refine Reg.take 8 (v := undef) rfl (by kernel_rfl) (by kernel_rfl) (by kernel_rfl) (fun _ _ _ h => h) (Or.inr ⟨by rfl, rfl⟩) (by assumption) ?_))
    (try simp only [Act.put, List.setIfInBounds_toArray, List.set_cons_zero, List.set_cons_succ])
    (first | (refine Reg.take 4 (v := ?_) rfl (by kernel_rfl) (by kernel_rfl) (by kernel_rfl) (fun _ _ _ h => h) (Or.inl ⟨by rfl, ?_⟩) (by assumption) ?_; rotate_left; (focus ((intro W hSW); (try dsimp only at hSW); (try go_split_ands); go_simp; (try (with_reducible rfl)); done))) | (refine Reg.take 4 (v := undef) rfl (by kernel_rfl) (by kernel_rfl) (by kernel_rfl) (fun _ _ _ h => h) (Or.inr ⟨by rfl, rfl⟩) (by assumption) ?_))
    (try simp only [Act.put, List.setIfInBounds_toArray, List.set_cons_zero, List.set_cons_succ])
    (first | (refine Reg.take 9 (v := ?_) rfl (by kernel_rfl) (by kernel_rfl) (by kernel_rfl) (fun _ _ _ h => h) (Or.inl ⟨by rfl, ?_⟩) (by assumption) ?_; rotate_left; (focus ((intro W hSW); (try dsimp only at hSW); (try go_split_ands); go_simp; (try (with_reducible rfl)); done))) | (refine Reg.take 9 (v := undef) rfl (by kernel_rfl) (by kernel_rfl) (by kernel_rfl) (fun _ _ _ h => h) (Or.inr ⟨by rfl, rfl⟩) (by assumption) ?_))
    (try simp only [Act.put, List.setIfInBounds_toArray, List.set_cons_zero, List.set_cons_succ])
    refine wpAnyH_done (by kernel_rfl) ?_ _
    clear hHeld hlen CC
    have hcut : Hid (cutM m ((p, ⟨n, v, l⟩) :: ns) = ((p, ⟨n, v, l⟩) :: ns).dropLast) := by
      show _ = _
      unfold cutM
      rw [if_pos (by have := of_decide_eq_true e5; rw [HKK.out] at this; exact this)]
    obtain ⟨u, z, huz⟩ : ∃ u z, (p, ⟨n, v, l⟩) :: ns = u ++ [z] := by
      rcases List.eq_nil_or_concat ((p, ⟨n, v, l⟩) :: ns) with h | ⟨u, z, h⟩
      · cases h
      · exact ⟨u, z, by rw [h, List.concat_eq_append]⟩
    have HUZ := Lib.hid huz
    have C13 : Hid (CacheAt w11.drew g r m (u ++ [z]) h s) := by show CacheAt _ _ _ _ _ _ _; rw [← huz]; exact C12.out
    have HR := Lib.hid (remove_any (a := u) (p := z.1) (x := z.2) (b := []) C13.out)
    have c3 : w11.drew.cell? ⟨g, 3, none⟩ = some (.pointer (some ⟨z.1, 0, none⟩)) := by have := C13.out.dl.head.cells.2.2.2.1; rw [lst_snoc] at this; exact this
    clear huz
    go_wp2_with fail
    refine HR.out.mono ?_
    rintro e w14 ⟨rfl, hC14, hN14, hV14, hz14⟩
    have C14 := Lib.hid hC14
    have V14 : Hid (Mov (foot g r ns) w w14) := V12.out.trans hV14 (fun x hx => by
      rw [List.append_nil] at hx
      rcases List.mem_cons.1 hx with e | hx
      · exact .inl (by rw [e]; exact List.mem_cons_self)
      · rcases List.mem_cons.1 hx with e | hx
        · exact .inl (by rw [e]; simp [foot])
        · have h1 : x ∈ blk (u ++ [z]) := by simp only [blk, List.map_append, List.mem_append]; exact .inl hx
          rw [← HUZ.out] at h1
          rcases List.mem_cons.1 h1 with e | h1
          · exact .inr (by rw [e]; exact HPW.out)
          · exact .inl (List.mem_cons_of_mem _ (List.mem_cons_of_mem _ h1)))
    have Z14 : Hid (p < w14.heap.size) := by show _ < _; have := Z12.out; omega
    clear hC14 hN14 hV14 hz14 HR c3
    go_wp2_with fail
    go_ret
    exact ⟨rfl, p, by rw [hcut.out, HUZ.out, List.dropLast_concat]; have := C14.out; rw [List.append_nil] at this; exact this, HPW.out, V14.out, Z14.out⟩
set_option maxRecDepth 100000 in
set_option maxHeartbeats 6400000 in
theorem put_some {w : World} {g r : Nat} {m h s : Int} {a b : List Nd} {y : Nd} {v : Int} {A : Option Addr} {l : List (BitVec 8)} (H : CacheAt w g r m (a ++ y :: b) h s) (hm : m ≠ 0) (hn : 0 ≤ y.2.lba) (hv : 0 ≤ v) (hle : y.2.ver ≤ v) (hT : TextAt w A l) :
    Calls Try.prog 9 #[.pointer (some ⟨g, 0, none⟩), .int .i64 y.2.lba, .int .i64 v, .slice A 16 16] w fun e w' => PutNew g r m h s (a ++ b) ⟨y.2.lba, v, l⟩ w w' e := by
  have e2 : decide (v < 0) = false := decide_eq_false (by omega)
  have e3 : (m == 0) = false := by simpa using hm
  have e4 : decide (v < y.2.ver) = false := decide_eq_false (by omega)
  have HA := fun w => Lib.hid (asked_any g w)
  have hget := run_at_get H.map y.2.lba
  rw [who_mid H.keys] at hget
  replace hget : (Instr.lookup 49 (.map (some r)) (.int .i64 y.2.lba) false).run Try.prog w = .ok (.pointer (some ⟨y.1, 0, none⟩)) w := hget
  have cv := (Seg.node (p := y.1) (x := y.2) H.dl.seg).cells.2.1
  have c1 := H.dl.head.cells.2.1
  have c0 := H.dl.head.cells.1
  have HR := Lib.hid (remove_any (a := a) (p := y.1) (x := y.2) (b := b) H)
  have HNK : Hid (y.2.lba ∉ lbas (a ++ b)) := fun hm => by
    have h := lbas_parts H.keys
    simp only [lbas, List.map_append, List.mem_append] at hm
    exact hm.elim h.1 h.2.1
  have CO := Lib.hid H
  have TO := Lib.hid hT
  obtain ⟨n, hnn⟩ : ∃ n : Int, n = y.2.lba := ⟨_, rfl⟩
  rw [← hnn] at hn hget HNK ⊢
  have e1 : decide (n < 0) = false := decide_eq_false (by omega)
  clear H hn hv hm hle hT hnn
  go_enter Try.func9, Try.ntmps9
  go_wp2_with fail
  refine (HA _).out.mono ?_
  rintro e w1 ⟨rfl, hw⟩
  obtain rfl := hw.symm
  clear HA
  go_upto_region 8 with fail
  clear hget c0 c1 cv e4
  go_wp2_with fail
  refine HR.out.mono ?_
  rintro e w8 ⟨rfl, hC8, hN8, hV8, hz8⟩
  have CW := Lib.hid hC8
  have VW := Lib.hid hV8
  have TW := Lib.hid (TO.out.mov CO.out hV8 fun x hx => .inl (by
    simp only [foot, blk, List.map_append, List.map_cons, List.mem_cons, List.mem_append] at hx ⊢
    rcases hx with h | h | h | h
    · exact .inl h
    · exact .inr (.inl h)
    · exact .inr (.inr (.inl h))
    · exact .inr (.inr (.inr (.inr h)))))
  clear hC8 hN8 hV8 hz8 HR
  obtain ⟨q, t0, t1, t2, t3, t4, t5, t6, t7, t8, t9, t10, t11, t12, t13, t14, t15, rfl, hTc, hTl, hTt⟩ := TW.out.open
  have harr := run_array16 q
  have d0 : w8.cell? ⟨q, 0, none⟩ = some t0 := hTc.cell 0
  have d1 : w8.cell? ⟨q, 1, none⟩ = some t1 := hTc.cell 1
  have d2 : w8.cell? ⟨q, 2, none⟩ = some t2 := hTc.cell 2
  have d3 : w8.cell? ⟨q, 3, none⟩ = some t3 := hTc.cell 3
  have d4 : w8.cell? ⟨q, 4, none⟩ = some t4 := hTc.cell 4
  have d5 : w8.cell? ⟨q, 5, none⟩ = some t5 := hTc.cell 5
  have d6 : w8.cell? ⟨q, 6, none⟩ = some t6 := hTc.cell 6
  have d7 : w8.cell? ⟨q, 7, none⟩ = some t7 := hTc.cell 7
  have d8 : w8.cell? ⟨q, 8, none⟩ = some t8 := hTc.cell 8
  have d9 : w8.cell? ⟨q, 9, none⟩ = some t9 := hTc.cell 9
  have d10 : w8.cell? ⟨q, 10, none⟩ = some t10 := hTc.cell 10
  have d11 : w8.cell? ⟨q, 11, none⟩ = some t11 := hTc.cell 11
  have d12 : w8.cell? ⟨q, 12, none⟩ = some t12 := hTc.cell 12
  have d13 : w8.cell? ⟨q, 13, none⟩ = some t13 := hTc.cell 13
  have d14 : w8.cell? ⟨q, 14, none⟩ = some t14 := hTc.cell 14
  have d15 : w8.cell? ⟨q, 15, none⟩ = some t15 := hTc.cell 15
  have N9 : Hid (Node (w8.alloc (.cells #[.int .i64 n, .int .i64 v, t0, t1, t2, t3, t4, t5, t6, t7, t8, t9, t10, t11, t12, t13, t14, t15, .pointer none, .pointer none] 61)) w8.heap.size ⟨n, v, l⟩ none none) := node_new hTl hTt
  have B9 : Hid (Below w8.heap.size w8 (w8.alloc (.cells #[.int .i64 n, .int .i64 v, t0, t1, t2, t3, t4, t5, t6, t7, t8, t9, t10, t11, t12, t13, t14, t15, .pointer none, .pointer none] 61))) := (Below.refl _ _).alloc (Nat.le_refl _) _
  have C9 := Lib.hid (CW.out.below B9.out)
  clear hTc hTl hTt
  go_upto_region 10 with fail
  generalize w8.alloc (.cells #[.int .i64 n, .int .i64 v, t0, t1, t2, t3, t4, t5, t6, t7, t8, t9, t10, t11, t12, t13, t14, t15, .pointer none, .pointer none] 61) = w9 at *
  clear d0 d1 d2 d3 d4 d5 d6 d7 d8 d9 d10 d11 d12 d13 d14 d15 harr
  obtain ⟨p, hp⟩ : ∃ p : Nat, p = w8.heap.size := ⟨_, rfl⟩
  have HPP := Lib.hid hp
  rw [← hp] at N9 ⊢
  clear hp
  have hpn : Hid (p ∉ foot g r (a ++ b)) := fun hm => by have := CW.out.lt p hm; have := HPP.out; omega
  have c1 := C9.out.dl.head.cells.2.1
  obtain ⟨w10, hput, hA10, hV10, hz10⟩ := run_at_put C9.out.map (p := p) (x := ⟨n, v, l⟩) HNK.out
  replace hput : (Instr.mapUpdate 49 (.map (some r)) (.int .i64 n) (.pointer (some ⟨p, 0, none⟩))).run Try.prog w9 = .ok () w10 := hput
  have hrf : r ∉ g :: blk (a ++ b) := nodup_blk C9.out
  have D10 := Lib.hid (C9.out.dl.keep fun q hq => hV10.block q (C9.out.dl.lt q hq) (by simp only [List.mem_singleton]; rintro rfl; exact hrf hq))
  have N10 := Lib.hid (N9.out.keep (hV10.block p N9.out.lt (by simp only [List.mem_singleton]; rintro rfl; exact hpn.out (by simp [foot]))))
  have A10 := Lib.hid hA10
  have V10 : Hid (Mov (foot g r (a ++ b)) w w10) := (VW.out.trans (Mov.of_below (foot g r (a ++ b)) B9.out) (fun x hx => .inl hx)).trans hV10 (by simp [foot])
  have Z10 : Hid (p < w10.heap.size) := by show _ < _; have := N9.out.lt; omega
  have HP := Lib.hid (putFirst_any D10.out N10.out (fun hm => hpn.out (List.mem_cons_of_mem _ (List.mem_cons_of_mem _ hm))))
  clear hA10 hV10 hz10 hrf
  go_upto_region 11 with fail
  clear hput c1
  go_wp2_with fail
  refine HP.out.mono ?_
  rintro e w11 ⟨rfl, hD11, hV11, hz11⟩
  have A11 : Hid (At w11 r ((p, ⟨n, v, l⟩) :: (a ++ b))) := A10.out.keep (hV11.block r A10.out.lt fun hm => by
    rcases List.mem_cons.1 hm with e | hm
    · exact nodup_blk C9.out (e ▸ List.mem_cons_self)
    · rcases List.mem_cons.1 hm with e | hm
      · exact hpn.out (by rw [← e]; simp [foot])
      · exact nodup_blk C9.out (List.mem_cons_of_mem _ hm))
  have C11 : Hid (CacheAt w11 g r m ((p, ⟨n, v, l⟩) :: (a ++ b)) h s) := ⟨hD11, A11.out, List.nodup_cons.2 ⟨HNK.out, CW.out.keys⟩⟩
  have hpw : w.heap.size ≤ p := by have := VW.out.size; have := HPP.out; omega
  have V11 : Hid (Mov (foot g r (a ++ b)) w w11) := V10.out.trans hV11 (fun x hx => by
    rcases List.mem_cons.1 hx with e | hx
    · exact .inl (by rw [e]; exact List.mem_cons_self)
    · rcases List.mem_cons.1 hx with e | hx
      · exact .inr (by rw [e]; exact hpw)
      · exact .inl (List.mem_cons_of_mem _ (List.mem_cons_of_mem _ hx)))
  have Z11 : Hid (p < w11.heap.size) := by show _ < _; have := Z10.out; omega
  have HPW := Lib.hid hpw
  clear hD11 hV11 hz11 HP hpw
  go_upto_region 12 with fail
  have C12 := Lib.hid C11.out.drew
  have V12 : Hid (Mov (foot g r (a ++ b)) w w11.drew) := V11.out.trans (Mov.drew (foot g r (a ++ b)) w11) (fun x hx => .inl hx)
  have Z12 : Hid (p < w11.drew.heap.size) := Z11.out
  obtain ⟨kk, hkk⟩ : ∃ k : Nat, k = (((p, ⟨n, v, l⟩) :: (a ++ b) : List Nd)).length := ⟨_, rfl⟩
  have HKK := Lib.hid hkk
  have hlen : ∀ ty, (Builtin.len_ #[49] ty #[.map (some r)]).run Try.prog w11.drew = .ok (.int .i64 (kk : Int)) w11.drew := by rw [hkk]; exact run_at_len C12.out.map
  have CC : w11.drew.cell? ⟨g, 0, none⟩ = some (.int .i64 m) ∧ w11.drew.cell? ⟨g, 1, none⟩ = some (.map (some r)) := ⟨C12.out.dl.head.cells.1, C12.out.dl.head.cells.2.1⟩
  clear hkk
  rcases e5 : decide (m < (kk : Int))
  · refine wp_region_held_drew (S := fun W => W = w11.drew) (by kernel_rfl) rfl (fun hHeld => ?_)
    (first | (refine Reg.take 0 (v := ?_) rfl (by kernel_rfl) (by kernel_rfl) (by kernel_rfl) (fun _ _ _ h => h) (Or.inl ⟨by rfl, ?_⟩) (by assumption) ?_; rotate_left; (focus ((intro W hSW); (try dsimp only at hSW); (try go_split_ands); go_simp; (try (with_reducible rfl)); done))) | (refine Reg.take 0 (v := undef) rfl (by kernel_rfl) (by kernel_rfl) (by kernel_rfl) (fun _ _ _ h => h) (Or.inr ⟨by rfl, rfl⟩) (by assumption) ?_))
    (try simp only [Act.put, List.setIfInBounds_toArray, List.set_cons_zero, List.set_cons_succ])
    (first | (refine Reg.take 1 (v := ?_) rfl (by kernel_rfl) (by kernel_rfl) (by kernel_rfl) (fun _ _ _ h => h) (Or.inl ⟨by rfl, ?_⟩) (by assumption) ?_; rotate_left; (focus ((intro W hSW); (try dsimp only at hSW); (try go_split_ands); go_simp; (try (with_reducible rfl)); done))) | (refine Reg.take 1 (v := undef) rfl (by kernel_rfl) (by kernel_rfl) (by kernel_rfl) (fun _ _ _ h => h) (Or.inr ⟨by rfl, rfl⟩) (by assumption) ?_))
    (try simp only [Act.put, List.setIfInBounds_toArray, List.set_cons_zero, List.set_cons_succ])
    (first | (refine Reg.take 2 (v := ?_) rfl (by kernel_rfl) (by kernel_rfl) (by kernel_rfl) (fun _ _ _ h => h) (Or.inl ⟨by rfl, ?_⟩) (by assumption) ?_; rotate_left; (focus ((intro W hSW); (try dsimp only at hSW); (try go_split_ands); go_simp; (try (with_reducible rfl)); done))) | (refine Reg.take 2 (v := undef) rfl (by kernel_rfl) (by kernel_rfl) (by kernel_rfl) (fun _ _ _ h => h) (Or.inr ⟨by rfl, rfl⟩) (by assumption) ?_))
    (try simp only [Act.put, List.setIfInBounds_toArray, List.set_cons_zero, List.set_cons_succ])
    (first | (refine Reg.take 3 (v := ?_) rfl (by kernel_rfl) (by kernel_rfl) (by kernel_rfl) (fun _ _ _ h => h) (Or.inl ⟨by rfl, ?_⟩) (by assumption) ?_; rotate_left; (focus ((intro W hSW); (try dsimp only at hSW); (try go_split_ands); go_simp; (try (with_reducible rfl)); done))) | (refine Reg.take 3 (v := undef) rfl (by kernel_rfl) (by kernel_rfl) (by kernel_rfl) (fun _ _ _ h => h) (Or.inr ⟨by rfl, rfl⟩) (by assumption) ?_))
    (try simp only [Act.put, List.setIfInBounds_toArray, List.set_cons_zero, List.set_cons_succ])
    (first | (refine Reg.take 5 (v := ?_) rfl (by kernel_rfl) (by kernel_rfl) (by kernel_rfl) (fun _ _ _ h => h) (Or.inl ⟨by rfl, ?_⟩) (by assumption) ?_; rotate_left; (focus ((intro W hSW); (try dsimp only at hSW); (try go_split_ands); go_simp; (try (with_reducible rfl)); done))) | (refine Reg.take 5 (v := undef) rfl (by kernel_rfl) (by kernel_rfl) (by kernel_rfl) (fun _ _ _ h => h) (Or.inr ⟨by rfl, rfl⟩) (by assumption) ?_))
    (try simp only [Act.put, List.setIfInBounds_toArray, List.set_cons_zero, List.set_cons_succ])
    (first | (refine Reg.take 6 (v := ?_) rfl (by kernel_rfl) (by kernel_rfl) (by kernel_rfl) (fun _ _ _ h => h) (Or.inl ⟨by rfl, ?_⟩) (by assumption) ?_; rotate_left; (focus ((intro W hSW); (try dsimp only at hSW); (try go_split_ands); go_simp; (try (with_reducible rfl)); done))) | (refine Reg.take 6 (v := undef) rfl (by kernel_rfl) (by kernel_rfl) (by kernel_rfl) (fun _ _ _ h => h) (Or.inr ⟨by rfl, rfl⟩) (by assumption) ?_))
    (try simp only [Act.put, List.setIfInBounds_toArray, List.set_cons_zero, List.set_cons_succ])
    (first | (refine Reg.take 7 (v := ?_) rfl (by kernel_rfl) (by kernel_rfl) (by kernel_rfl) (fun _ _ _ h => h) (Or.inl ⟨by rfl, ?_⟩) (by assumption) ?_; rotate_left; (focus ((intro W hSW); (try dsimp only at hSW); (try go_split_ands); go_simp; (try (with_reducible rfl)); done))) | (refine Reg.take 7 (v := undef) rfl (by kernel_rfl) (by kernel_rfl) (by kernel_rfl) (fun _ _ _ h => h) (Or.inr ⟨by rfl, rfl⟩) (by assumption) ?_))
    (try simp only [Act.put, List.setIfInBounds_toArray, List.set_cons_zero, List.set_cons_succ])
    (first | (refine Reg.take 8 (v := ?_) rfl (by kernel_rfl) (by kernel_rfl) (by kernel_rfl) (fun _ _ _ h => h) (Or.inl ⟨by rfl, ?_⟩) (by assumption) ?_; rotate_left; (focus ((intro W hSW); (try dsimp only at hSW); (try go_split_ands); go_simp; (try (with_reducible rfl)); done))) | (refine Reg.take 8 (v := undef) rfl (by kernel_rfl) (by kernel_rfl) (by kernel_rfl) (fun _ _ _ h => h) (Or.inr ⟨by rfl, rfl⟩) (by assumption) ?_))
    (try simp only [Act.put, List.setIfInBounds_toArray, List.set_cons_zero, List.set_cons_succ])
    (first | (refine Reg.take 4 (v := ?_) rfl (by kernel_rfl) (by kernel_rfl) (by kernel_rfl) (fun _ _ _ h => h) (Or.inl ⟨by rfl, ?_⟩) (by assumption) ?_; rotate_left; (focus ((intro W hSW); (try dsimp only at hSW); (try go_split_ands); go_simp; (try (with_reducible rfl)); done))) | (refine Reg.take 4 (v := undef) rfl (by kernel_rfl) (by kernel_rfl) (by kernel_rfl) (fun _ _ _ h => h) (Or.inr ⟨by rfl, rfl⟩) (by assumption) ?_))
    (try simp only [Act.put, List.setIfInBounds_toArray, List.set_cons_zero, List.set_cons_succ])
    (first | (refine Reg.take 9 (v := ?_) rfl (by kernel_rfl) (by kernel_rfl) (by kernel_rfl) (fun _ _ _ h => h) (Or.inl ⟨by rfl, ?_⟩) (by assumption) ?_; rotate_left; (focus ((intro W hSW); (try dsimp only at hSW); (try go_split_ands); go_simp; (try (with_reducible rfl)); done))) | (refine Reg.take 9 (v := undef) rfl (by kernel_rfl) (by kernel_rfl) (by kernel_rfl) (fun _ _ _ h => h) (Or.inr ⟨by rfl, rfl⟩) (by assumption) ?_))
    (try simp only [Act.put, List.setIfInBounds_toArray, List.set_cons_zero, List.set_cons_succ])
    refine wpAnyH_done (by kernel_rfl) ?_ _
    clear hHeld hlen CC
    go_wp2_with fail
    go_ret
    have hcut : cutM m ((p, ⟨n, v, l⟩) :: (a ++ b)) = (p, ⟨n, v, l⟩) :: (a ++ b) := by
      unfold cutM
      rw [if_neg (by have := of_decide_eq_false e5; rw [HKK.out] at this; exact this)]
    exact ⟨rfl, p, by rw [hcut]; exact C12.out, HPW.out, V12.out, Z12.out⟩
  · refine wp_region_held_drew (S := fun W => W = w11.drew) (by kernel_rfl) rfl (fun hHeld => ?_)
    (first | (refine Reg.take 0 (v := ?_) rfl (by kernel_rfl) (by kernel_rfl) (by kernel_rfl) (fun _ _ _ h => h) (Or.inl ⟨by rfl, ?_⟩) (by assumption) ?_; rotate_left; (focus ((intro W hSW); (try dsimp only at hSW); (try go_split_ands); go_simp; (try (with_reducible rfl)); done))) | (refine Reg.take 0 (v := undef) rfl (by kernel_rfl) (by kernel_rfl) (by kernel_rfl) (fun _ _ _ h => h) (Or.inr ⟨by rfl, rfl⟩) (by assumption) ?_))
    (try simp only [Act.put, List.setIfInBounds_toArray, List.set_cons_zero, List.set_cons_succ])
    (first | (refine Reg.take 1 (v := ?_) rfl (by kernel_rfl) (by kernel_rfl) (by kernel_rfl) (fun _ _ _ h => h) (Or.inl ⟨by rfl, ?_⟩) (by assumption) ?_; rotate_left; (focus ((intro W hSW); (try dsimp only at hSW); (try go_split_ands); go_simp; (try (with_reducible rfl)); done))) | (refine Reg.take 1 (v := undef) rfl (by kernel_rfl) (by kernel_rfl) (by kernel_rfl) (fun _ _ _ h => h) (Or.inr ⟨by rfl, rfl⟩) (by assumption) ?_))
    (try simp only [Act.put, List.setIfInBounds_toArray, List.set_cons_zero, List.set_cons_succ])
    (first | (refine Reg.take 2 (v := ?_) rfl (by kernel_rfl) (by kernel_rfl) (by kernel_rfl) (fun _ _ _ h => h) (Or.inl ⟨by rfl, ?_⟩) (by assumption) ?_; rotate_left; (focus ((intro W hSW); (try dsimp only at hSW); (try go_split_ands); go_simp; (try (with_reducible rfl)); done))) | (refine Reg.take 2 (v := undef) rfl (by kernel_rfl) (by kernel_rfl) (by kernel_rfl) (fun _ _ _ h => h) (Or.inr ⟨by rfl, rfl⟩) (by assumption) ?_))
    (try simp only [Act.put, List.setIfInBounds_toArray, List.set_cons_zero, List.set_cons_succ])
    (first | (refine Reg.take 3 (v := ?_) rfl (by kernel_rfl) (by kernel_rfl) (by kernel_rfl) (fun _ _ _ h => h) (Or.inl ⟨by rfl, ?_⟩) (by assumption) ?_; rotate_left; (focus ((intro W hSW); (try dsimp only at hSW); (try go_split_ands); go_simp; (try (with_reducible rfl)); done))) | (refine Reg.take 3 (v := undef) rfl (by kernel_rfl) (by kernel_rfl) (by kernel_rfl) (fun _ _ _ h => h) (Or.inr ⟨by rfl, rfl⟩) (by assumption) ?_))
    (try simp only [Act.put, List.setIfInBounds_toArray, List.set_cons_zero, List.set_cons_succ])
    (first | (refine Reg.take 5 (v := ?_) rfl (by kernel_rfl) (by kernel_rfl) (by kernel_rfl) (fun _ _ _ h => h) (Or.inl ⟨by rfl, ?_⟩) (by assumption) ?_; rotate_left; (focus ((intro W hSW); (try dsimp only at hSW); (try go_split_ands); go_simp; (try (with_reducible rfl)); done))) | (refine Reg.take 5 (v := undef) rfl (by kernel_rfl) (by kernel_rfl) (by kernel_rfl) (fun _ _ _ h => h) (Or.inr ⟨by rfl, rfl⟩) (by assumption) ?_))
    (try simp only [Act.put, List.setIfInBounds_toArray, List.set_cons_zero, List.set_cons_succ])
    (first | (refine Reg.take 6 (v := ?_) rfl (by kernel_rfl) (by kernel_rfl) (by kernel_rfl) (fun _ _ _ h => h) (Or.inl ⟨by rfl, ?_⟩) (by assumption) ?_; rotate_left; (focus ((intro W hSW); (try dsimp only at hSW); (try go_split_ands); go_simp; (try (with_reducible rfl)); done))) | (refine Reg.take 6 (v := undef) rfl (by kernel_rfl) (by kernel_rfl) (by kernel_rfl) (fun _ _ _ h => h) (Or.inr ⟨by rfl, rfl⟩) (by assumption) ?_))
    (try simp only [Act.put, List.setIfInBounds_toArray, List.set_cons_zero, List.set_cons_succ])
    (first | (refine Reg.take 7 (v := ?_) rfl (by kernel_rfl) (by kernel_rfl) (by kernel_rfl) (fun _ _ _ h => h) (Or.inl ⟨by rfl, ?_⟩) (by assumption) ?_; rotate_left; (focus ((intro W hSW); (try dsimp only at hSW); (try go_split_ands); go_simp; (try (with_reducible rfl)); done))) | (refine Reg.take 7 (v := undef) rfl (by kernel_rfl) (by kernel_rfl) (by kernel_rfl) (fun _ _ _ h => h) (Or.inr ⟨by rfl, rfl⟩) (by assumption) ?_))
    (try simp only [Act.put, List.setIfInBounds_toArray, List.set_cons_zero, List.set_cons_succ])
    (first | (refine Reg.take 8 (v := ?_) rfl (by kernel_rfl) (by kernel_rfl) (by kernel_rfl) (fun _ _ _ h => h) (Or.inl ⟨by rfl, ?_⟩) (by assumption) ?_; rotate_left; (focus ((intro W hSW); (try dsimp only at hSW); (try go_split_ands); go_simp; (try (with_reducible rfl)); done))) | (refine Reg.take 8 (v := undef) rfl (by kernel_rfl) (by kernel_rfl) (by kernel_rfl) (fun _ _ _ h => h) (Or.inr ⟨by rfl, rfl⟩) (by assumption) ?_))
    (try simp only [Act.put, List.setIfInBounds_toArray, List.set_cons_zero, List.set_cons_succ])
    (first | (refine Reg.take 4 (v := ?_) rfl (by kernel_rfl) (by kernel_rfl) (by kernel_rfl) (fun _ _ _ h => h) (Or.inl ⟨by rfl, ?_⟩) (by assumption) ?_; rotate_left; (focus ((intro W hSW); (try dsimp only at hSW); (try go_split_ands); go_simp; (try (with_reducible rfl)); done))) | (refine Reg.take 4 (v := undef) rfl (by kernel_rfl) (by kernel_rfl) (by kernel_rfl) (fun _ _ _ h => h) (Or.inr ⟨by rfl, rfl⟩) (by assumption) ?_))
    (try simp only [Act.put, List.setIfInBounds_toArray, List.set_cons_zero, List.set_cons_succ])
    (first | (refine Reg.take 9 (v := ?_) rfl (by kernel_rfl) (by kernel_rfl) (by kernel_rfl) (fun _ _ _ h => h) (Or.inl ⟨by rfl, ?_⟩) (by assumption) ?_; rotate_left; (focus ((intro W hSW); (try dsimp only at hSW); (try go_split_ands); go_simp; (try (with_reducible rfl)); done))) | (refine Reg.take 9 (v := undef) rfl (by kernel_rfl) (by kernel_rfl) (by kernel_rfl) (fun _ _ _ h => h) (Or.inr ⟨by rfl, rfl⟩) (by assumption) ?_))
    (try simp only [Act.put, List.setIfInBounds_toArray, List.set_cons_zero, List.set_cons_succ])
    refine wpAnyH_done (by kernel_rfl) ?_ _
    clear hHeld hlen CC
    have hcut : Hid (cutM m ((p, ⟨n, v, l⟩) :: (a ++ b)) = ((p, ⟨n, v, l⟩) :: (a ++ b)).dropLast) := by
      show _ = _
      unfold cutM
      rw [if_pos (by have := of_decide_eq_true e5; rw [HKK.out] at this; exact this)]
    obtain ⟨u, z, huz⟩ : ∃ u z, (p, ⟨n, v, l⟩) :: (a ++ b) = u ++ [z] := by
      rcases List.eq_nil_or_concat ((p, ⟨n, v, l⟩) :: (a ++ b)) with h | ⟨u, z, h⟩
      · cases h
      · exact ⟨u, z, by rw [h, List.concat_eq_append]⟩
    have HUZ := Lib.hid huz
    have C13 : Hid (CacheAt w11.drew g r m (u ++ [z]) h s) := by show CacheAt _ _ _ _ _ _ _; rw [← huz]; exact C12.out
    have HR := Lib.hid (remove_any (a := u) (p := z.1) (x := z.2) (b := []) C13.out)
    have c3 : w11.drew.cell? ⟨g, 3, none⟩ = some (.pointer (some ⟨z.1, 0, none⟩)) := by have := C13.out.dl.head.cells.2.2.2.1; rw [lst_snoc] at this; exact this
    clear huz
    go_wp2_with fail
    refine HR.out.mono ?_
    rintro e w14 ⟨rfl, hC14, hN14, hV14, hz14⟩
    have C14 := Lib.hid hC14
    have V14 : Hid (Mov (foot g r (a ++ b)) w w14) := V12.out.trans hV14 (fun x hx => by
      rw [List.append_nil] at hx
      rcases List.mem_cons.1 hx with e | hx
      · exact .inl (by rw [e]; exact List.mem_cons_self)
      · rcases List.mem_cons.1 hx with e | hx
        · exact .inl (by rw [e]; simp [foot])
        · have h1 : x ∈ blk (u ++ [z]) := by simp only [blk, List.map_append, List.mem_append]; exact .inl hx
          rw [← HUZ.out] at h1
          rcases List.mem_cons.1 h1 with e | h1
          · exact .inr (by rw [e]; exact HPW.out)
          · exact .inl (List.mem_cons_of_mem _ (List.mem_cons_of_mem _ h1)))
    have Z14 : Hid (p < w14.heap.size) := by show _ < _; have := Z12.out; omega
    clear hC14 hN14 hV14 hz14 HR c3
    go_wp2_with fail
    go_ret
    exact ⟨rfl, p, by rw [hcut.out, HUZ.out, List.dropLast_concat]; have := C14.out; rw [List.append_nil] at this; exact this, HPW.out, V14.out, Z14.out⟩
end Cac
end Go.Proofs.Ytfngebikihdogaa
