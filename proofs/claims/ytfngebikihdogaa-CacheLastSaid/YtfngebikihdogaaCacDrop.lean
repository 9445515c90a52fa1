/-
  A WALK: Drop.
-/
import Derived.Test.YtfngebikihdogaaCacKeys
namespace Go.Proofs.Ytfngebikihdogaa
open Go.RowKit Mem Box GM
namespace Cac
/-- Is it one of the n blocks from a on? -/
def hit (a n : Int) (y : Nd) : Bool := decide (a ≤ y.2.lba) && decide (y.2.lba - a < n)
def dropN (ns : List Nd) (a n : Int) : List Nd := ns.filter fun y => !hit a n y
theorem dropN_low {ns : List Nd} {a n : Int} (h : n ≤ 0) : dropN ns a n = ns := by
  unfold dropN
  refine List.filter_eq_self.2 fun y _ => ?_
  unfold hit
  by_cases h1 : a ≤ y.2.lba
  · rw [decide_eq_false (p := y.2.lba - a < n) (by omega)]; simp
  · rw [decide_eq_false h1]; rfl
theorem dropN_sub (ns : List Nd) (a n : Int) : (dropN ns a n).Sublist ns := List.filter_sublist
theorem dropN_none {ns : List Nd} {a : Int} {j : Nat} (h : ∀ y ∈ ns, y.2.lba ≠ a + j) : dropN ns a ((j + 1 : Nat) : Int) = dropN ns a j := by
  unfold dropN
  refine List.filter_congr fun y hy => ?_
  have := h y hy
  unfold hit
  congr 2
  simp only [decide_eq_decide]
  omega
theorem dropN_some {ns : List Nd} {a : Int} {j : Nat} {u v : List Nd} {y : Nd} (hk : (lbas (u ++ y :: v)).Nodup) (h : dropN ns a j = u ++ y :: v) (hy : y.2.lba = a + j) : dropN ns a ((j + 1 : Nat) : Int) = u ++ v := by
  have e : dropN ns a ((j + 1 : Nat) : Int) = (dropN ns a j).filter (fun z => !(z.2.lba == a + j)) := by
    unfold dropN
    rw [List.filter_filter]
    refine List.filter_congr fun z _ => ?_
    unfold hit
    by_cases h1 : z.2.lba = a + j
    · rw [decide_eq_true (p := a ≤ z.2.lba) (by omega), decide_eq_true (p := z.2.lba - a < ((j + 1 : Nat) : Int)) (by omega), show (z.2.lba == a + j) = true by simpa using h1]
      rfl
    · rw [show (z.2.lba == a + j) = false by simpa using h1, show decide (z.2.lba - a < ((j + 1 : Nat) : Int)) = decide (z.2.lba - a < (j : Int)) from ?_]
      · simp
      · simp only [decide_eq_decide]
        omega
  obtain ⟨h1, h2, -⟩ := lbas_parts hk
  rw [e, h, List.filter_append, List.filter_cons, show (y.2.lba == a + j) = true by simpa using hy]
  simp only [Bool.not_true]
  rw [List.filter_eq_self.2, List.filter_eq_self.2]
  · rfl
  · intro z hz
    have : z.2.lba ≠ y.2.lba := fun e => h2 (List.mem_map.2 ⟨z, hz, e⟩)
    simp; omega
  · intro z hz
    have : z.2.lba ≠ y.2.lba := fun e => h1 (List.mem_map.2 ⟨z, hz, e⟩)
    simp; omega
theorem dropN_snoc {ns : List Nd} {a n : Int} {j : Nat} {y : Nd} (hy : ns[j]? = some y) : dropN (ns.take (j + 1)) a n = dropN (ns.take j) a n ++ (if hit a n y then [] else [y]) := by
  unfold dropN
  rw [List.take_add_one, hy, List.filter_append]
  congr 1
  simp only [Option.toList_some, List.filter_cons, List.filter_nil]
  cases hit a n y <;> rfl
theorem split_at {ns : List Nd} {j : Nat} {y : Nd} (hy : ns[j]? = some y) : ns.drop j = y :: ns.drop (j + 1) := by
  obtain ⟨hlt, rfl⟩ := List.getElem?_eq_some_iff.1 hy
  exact List.drop_eq_getElem_cons hlt
theorem foot_sub {g r : Nat} {l l' : List Nd} (h : l.Sublist l') : ∀ x ∈ foot g r l, x ∈ foot g r l' := fun x hx => by
  rcases List.mem_cons.1 hx with e | hx
  · rw [e]; exact List.mem_cons_self
  · rcases List.mem_cons.1 hx with e | hx
    · rw [e]; exact List.mem_cons_of_mem _ List.mem_cons_self
    · exact List.mem_cons_of_mem _ (List.mem_cons_of_mem _ ((h.map _).subset hx))
/-- How far a pointer is from the end of them. -/
def posM (l : List Nat) : Value → Nat
  | .pointer (some a) => l.length - l.idxOf a.block
  | _ => 0
theorem idx_at : ∀ {l : List Nat}, l.Nodup → ∀ {j : Nat} (h : j < l.length), l.idxOf l[j] = j
  | [], _, j, h => by simp at h
  | x :: l, hn, 0, _ => by simp
  | x :: l, hn, j + 1, h => by
    obtain ⟨h1, h2⟩ := List.nodup_cons.1 hn
    have hj : j < l.length := by simpa using h
    have hne : ¬ x = l[j] := fun e => h1 (e ▸ List.getElem_mem hj)
    rw [List.getElem_cons_succ, List.idxOf_cons, show (x == l[j]) = false by simpa using hne]
    show l.idxOf l[j] + 1 = _
    rw [idx_at h2 hj]
theorem posM_at {l : List Nat} (hn : l.Nodup) {j p : Nat} (h : l[j]? = some p) : posM l (ptr (some p)) = l.length - j := by
  obtain ⟨hlt, rfl⟩ := List.getElem?_eq_some_iff.1 h
  show l.length - l.idxOf l[j] = _
  rw [idx_at hn hlt]
theorem posM_next {ns : List Nd} (hn : (blk ns).Nodup) (j : Nat) : posM (blk ns) (ptr (hd (ns.drop j) none)) ≤ ns.length - j := by
  rcases e : ns[j]? with _ | y
  · rw [List.drop_eq_nil_of_le (List.getElem?_eq_none_iff.1 e)]
    show 0 ≤ _
    omega
  · rw [hd_drop e, posM_at hn (p := y.1) (j := j) (by rw [List.getElem?_map, e]; rfl), List.length_map]
    exact Nat.le_refl _

set_option maxRecDepth 100000 in
set_option maxHeartbeats 6400000 in
theorem drop_any {w : World} {g r : Nat} {m h s : Int} {ns : List Nd} (H : CacheAt w g r m ns h s) (hlen : ns.length ≤ 100000) (hL : ∀ y ∈ ns, 0 ≤ y.2.lba ∧ y.2.lba ≤ 9223372036854775807) {a n : Int} (ha : 0 ≤ a) (ha2 : a ≤ 9223372036854775807) (hn2 : n ≤ 9223372036854775807) :
    Calls Try.prog 13 #[.pointer (some ⟨g, 0, none⟩), .int .i64 a, .int .i64 n] w fun e w' => e = .returned (.int .i64 ((ns.length : Int) - ((dropN ns a n).length : Int))) ∧ CacheAt w' g r m (dropN ns a n) h s ∧ Mov (foot g r ns) w w' := by
  have HC := Lib.hid H
  have HA := fun w => Lib.hid (asked_any g w)
  have HL := Lib.hid hL
  obtain ⟨b, hb⟩ : ∃ b, b = ns.length := ⟨_, rfl⟩
  have HB := Lib.hid hb
  have hl0 : ∀ ty, (Builtin.len_ #[49] ty #[.map (some r)]).run Try.prog w = .ok (.int .i64 (b : Int)) w := by rw [hb]; exact run_at_len H.map
  have c1 := H.dl.head.cells.2.1
  have c2 : w.cell? ⟨g, 2, none⟩ = some (ptr (hd ns none)) := H.dl.head.cells.2.2.1
  rw [← hb] at hlen ⊢
  clear H hb hL
  go_enter Try.func13, Try.ntmps13
  go_wp2_with fail
  refine (HA _).out.mono ?_
  rintro e w1 ⟨rfl, hw⟩
  obtain rfl := hw.symm
  clear HA
  rcases e1 : decide (n ≤ (b : Int))
  · have hnb : (b : Int) < n := by have := of_decide_eq_false e1; omega
    obtain ⟨nb, hnbb⟩ : ∃ o : Option Addr, ptr (hd ns none) = .pointer o := ⟨_, rfl⟩
    rw [hnbb] at c2
    have HNB := Lib.hid hnbb
    clear hnbb
    go_wp2_with fail
    clear c1 c2 hl0
    go_loopw [10] (fun k wr => ∃ j : Nat, k = ptr (hd (ns.drop j) none) ∧ j ≤ b ∧ Hid (CacheAt wr g r m (dropN (ns.take j) a n ++ ns.drop j) h s ∧ Mov (foot g r ns) w wr)) (fun k _ => posM (blk ns) k)
    case atStart => exact ⟨0, HNB.out.symm, by omega, HC.out, Mov.refl _ _⟩
    case round =>
      obtain ⟨j, rfl, hj, hH⟩ := hrel
      by_cases hlt : j < b
      · obtain ⟨y, hy⟩ : ∃ y, ns[j]? = some y := ⟨_, List.getElem?_eq_getElem (by have := HB.out; omega)⟩
        have HPM : Hid (posM (blk ns) (ptr (hd (ns.drop j) none)) = b - j) := by
          show _ = _
          rw [hd_drop hy, posM_at HC.out.dl.nod (p := y.1) (j := j) (by rw [List.getElem?_map, hy]; rfl), List.length_map, ← HB.out]
        have HPN : Hid (posM (blk ns) (ptr (hd (ns.drop (j + 1)) none)) ≤ b - (j + 1)) := by have := posM_next HC.out.dl.nod (j + 1); rw [← HB.out] at this; exact this
        have HS := Lib.hid (dropN_snoc (a := a) (n := n) hy)
        have CR : Hid (CacheAt wr g r m (dropN (ns.take j) a n ++ y :: ns.drop (j + 1)) h s) := by have := hH.out.1; rw [split_at hy] at this; exact this
        have VR := Lib.hid hH.out.2
        have HY := Lib.hid (HL.out y (List.mem_of_getElem? hy))
        have hlo := HY.out.1
        have hhi := HY.out.2
        have SUB : Hid ((dropN (ns.take j) a n ++ y :: ns.drop (j + 1)).Sublist ns) := by
          have h1 : (dropN (ns.take j) a n ++ ns.drop j).Sublist (ns.take j ++ ns.drop j) := (dropN_sub _ _ _).append_right _
          rw [List.take_append_drop, split_at hy] at h1
          exact h1
        rw [hd_drop hy] at HPM ⊢
        rw [show ptr (some y.1) = .pointer (some ⟨y.1, 0, none⟩) from rfl] at HPM ⊢
        obtain ⟨cl, -, -, co⟩ := (Seg.node (p := y.1) (x := y.2) CR.out.dl.seg).cells
        have hwk : IntKind.i64.wrap (y.2.lba - n) = y.2.lba - n := by rw [IntKind.wrap_i64]; omega
        clear hy
        obtain ⟨nb2, hnb2⟩ : ∃ o : Option Addr, ptr (hd (ns.drop (j + 1)) none) = .pointer o := ⟨_, rfl⟩
        rw [hnb2] at co HPN
        have HNB2 := Lib.hid hnb2
        clear hnb2
        rcases e2 : decide (a ≤ y.2.lba)
        · have hh : Hid (hit a n y = false) := by show _ = _; unfold hit; rw [e2]; rfl
          rw [hh.out] at HS
          go_wp2_with fail
          go_roundw
          case rel => exact ⟨j + 1, HNB2.out.symm, by omega, by rw [HS.out, if_neg (by simp), List.append_assoc]; exact CR.out, VR.out⟩
          case measure => rw [HPM.out]; have := HPN.out; omega
        · rcases e3 : decide (y.2.lba - n < a)
          · have hh : Hid (hit a n y = false) := by
              show _ = _
              unfold hit
              rw [e2, decide_eq_false (by have := of_decide_eq_false e3; omega)]; rfl
            rw [hh.out] at HS
            go_wp2_with fail
            go_roundw
            case rel => exact ⟨j + 1, HNB2.out.symm, by omega, by rw [HS.out, if_neg (by simp), List.append_assoc]; exact CR.out, VR.out⟩
            case measure => rw [HPM.out]; have := HPN.out; omega
          · have hh : Hid (hit a n y = true) := by
              show _ = _
              unfold hit
              rw [e2, decide_eq_true (by have := of_decide_eq_true e3; omega)]; rfl
            rw [hh.out] at HS
            have HR := Lib.hid (remove_any (p := y.1) (x := y.2) CR.out)
            go_wp2_with fail
            refine HR.out.mono ?_
            rintro e w4 ⟨rfl, hC4, hN4, hV4, hz4⟩
            have co4 := hN4.cells.2.2.2
            rw [HNB2.out] at co4
            have C4 := Lib.hid hC4
            have V4 := Lib.hid (VR.out.trans hV4 fun x hx => .inl (foot_sub ((List.Sublist.append_left (List.sublist_cons_self _ _) _).trans SUB.out) x hx))
            clear hC4 hN4 hV4 hz4 cl co HR
            go_wp2_with fail
            go_roundw
            case rel => exact ⟨j + 1, HNB2.out.symm, by omega, by rw [HS.out, if_pos trivial, List.append_nil]; exact C4.out, V4.out⟩
            case measure => rw [HPM.out]; have := HPN.out; omega
      · obtain rfl : j = b := by omega
        have hd0 : hd (ns.drop j) none = none := by rw [List.drop_eq_nil_of_le (by have := HB.out; omega)]; rfl
        have CR : Hid (CacheAt wr g r m (dropN ns a n) h s) := by
          have := hH.out.1
          rw [List.drop_eq_nil_of_le (by have := HB.out; omega), List.take_of_length_le (by have := HB.out; omega), List.append_nil] at this
          exact this
        obtain ⟨kk, hkk⟩ : ∃ k, k = (dropN ns a n).length := ⟨_, rfl⟩
        have HKK : Hid (kk ≤ j) := by show _ ≤ _; rw [hkk, HB.out]; exact (dropN_sub _ _ _).length_le
        have hl1 : ∀ ty, (Builtin.len_ #[49] ty #[.map (some r)]).run Try.prog wr = .ok (.int .i64 (kk : Int)) wr := by rw [hkk]; exact run_at_len CR.out.map
        have c1 := CR.out.dl.head.cells.2.1
        have hwk : IntKind.i64.wrap ((j : Int) - (kk : Int)) = (j : Int) - (kk : Int) := by have := HKK.out; rw [IntKind.wrap_i64]; omega
        rw [hd0, show ptr none = .pointer none from rfl]
        have HK2 := Lib.hid hkk
        clear hkk
        go_wp2_with fail
        go_ret
        exact ⟨by rw [← HK2.out]; rfl, CR.out, hH.out.2⟩
  · have hnb : n ≤ (b : Int) := of_decide_eq_true e1
    go_wp2_with fail
    clear c1 c2 hl0
    go_loopw [8, 9, 22] (fun _ _ i wr => ∃ j : Nat, i = .int .i64 j ∧ (j : Int) ≤ max n 0 ∧ Hid (CacheAt wr g r m (dropN ns a j) h s ∧ Mov (foot g r ns) w wr)) (fun _ _ i _ => n.toNat - (intOf i).toNat)
    case atStart => exact ⟨0, rfl, by omega, by rw [dropN_low (by omega)]; exact HC.out, Mov.refl _ _⟩
    case round =>
      obtain ⟨j, rfl, hj, hH⟩ := hrel
      have CR := Lib.hid hH.out.1
      have VR := Lib.hid hH.out.2
      rcases e2 : decide ((j : Int) < n)
      · have hjn : ¬ (j : Int) < n := of_decide_eq_false e2
        have hjm : (j : Int) = max n 0 := by omega
        have CF : Hid (CacheAt wr g r m (dropN ns a n) h s) := by
          have := CR.out
          rcases Int.le_total 0 n with h0 | h0
          · rw [show (j : Int) = n by omega] at this; exact this
          · rw [dropN_low (by omega)] at this ⊢; exact this
        obtain ⟨kk, hkk⟩ : ∃ k, k = (dropN ns a n).length := ⟨_, rfl⟩
        have HKK : Hid (kk ≤ b) := by show _ ≤ _; rw [hkk, HB.out]; exact (dropN_sub _ _ _).length_le
        have hl1 : ∀ ty, (Builtin.len_ #[49] ty #[.map (some r)]).run Try.prog wr = .ok (.int .i64 (kk : Int)) wr := by rw [hkk]; exact run_at_len CF.out.map
        have c1 := CF.out.dl.head.cells.2.1
        have hwk : IntKind.i64.wrap ((b : Int) - (kk : Int)) = (b : Int) - (kk : Int) := by have := HKK.out; rw [IntKind.wrap_i64]; omega
        have HK2 := Lib.hid hkk
        clear hkk hjm hjn
        go_wp2_with fail
        go_ret
        exact ⟨by rw [← HK2.out]; rfl, CF.out, VR.out⟩
      · have hjn : (j : Int) < n := of_decide_eq_true e2
        have c1 := CR.out.dl.head.cells.2.1
        obtain ⟨kk, hkk⟩ : ∃ k : Int, IntKind.i64.wrap (a + (j : Int)) = k := ⟨_, rfl⟩
        have HKK : Hid (kk = a + j ∨ kk < 0) := by
          show _ ∨ _
          rw [← hkk, IntKind.wrap_i64]
          omega
        have HNX : Hid (kk < 0 → 9223372036854775807 < a + j) := by
          intro h0
          rw [← hkk, IntKind.wrap_i64] at h0
          omega
        have hget := run_at_get CR.out.map kk
        rcases e3 : who (dropN ns a j) kk with _ | y
        · rw [e3] at hget
          replace hget : (Instr.lookup 49 (.map (some r)) (.int .i64 kk) false).run Try.prog wr = .ok (.pointer none) wr := hget
          have CN : Hid (CacheAt wr g r m (dropN ns a ((j + 1 : Nat) : Int)) h s) := by
            show CacheAt _ _ _ _ _ _ _
            rw [dropN_none]
            · exact CR.out
            · intro z hz e
              have hz' := HL.out z hz
              rcases HKK.out with h1 | h1
              · refine who_none.1 e3 (List.mem_map.2 ⟨z, List.mem_filter.2 ⟨hz, ?_⟩, by omega⟩)
                unfold hit
                rw [decide_eq_false (p := z.2.lba - a < (j : Int)) (by omega)]; simp
              · have := HNX.out h1; omega
          clear e3
          go_wp2_with fail
          go_roundw
          case rel => exact ⟨j + 1, by go_num, by omega, CN.out, VR.out⟩
          case measure => simp [intOf]; omega
        · rw [e3] at hget
          replace hget : (Instr.lookup 49 (.map (some r)) (.int .i64 kk) false).run Try.prog wr = .ok (.pointer (some ⟨y.1, 0, none⟩)) wr := hget
          obtain ⟨hy, hyl⟩ := who_some e3
          obtain ⟨u, v, huv⟩ := List.append_of_mem hy
          have CU : Hid (CacheAt wr g r m (u ++ y :: v) h s) := by have := CR.out; rw [huv] at this; exact this
          have HYA : Hid (y.2.lba = a + j) := by
            have h0 := HL.out y ((dropN_sub _ _ _).subset hy)
            rcases HKK.out with h1 | h1
            · show _ = _; omega
            · omega
          have HDS := Lib.hid (dropN_some CU.out.keys huv HYA.out)
          have SUB : Hid ((u ++ v).Sublist ns) := by
            have h1 := dropN_sub ns a j
            rw [huv] at h1
            exact (List.Sublist.append_left (List.sublist_cons_self _ _) _).trans h1
          have HR := Lib.hid (remove_any (p := y.1) (x := y.2) CU.out)
          clear e3 hy hyl huv
          go_wp2_with fail
          refine HR.out.mono ?_
          rintro e w4 ⟨rfl, hC4, hN4, hV4, hz4⟩
          have C4 := Lib.hid hC4
          have V4 := Lib.hid (VR.out.trans hV4 fun x hx => .inl (foot_sub SUB.out x hx))
          clear hC4 hN4 hV4 hz4 HR hget c1
          go_wp2_with fail
          go_roundw
          case rel => exact ⟨j + 1, by go_num, by omega, by rw [HDS.out]; exact C4.out, V4.out⟩
          case measure => simp [intOf]; omega
end Cac
end Go.Proofs.Ytfngebikihdogaa
