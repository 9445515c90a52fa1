/-
  WALKS: which operations are few; whether a block is there at a version.
-/
import Derived.Test.YtfngebikihdogaaCacArgs
namespace Go.Proofs.Ytfngebikihdogaa
open Go.RowKit Mem Box GM
namespace Cac
set_option maxRecDepth 100000 in
set_option maxHeartbeats 6400000 in
theorem few_any {A : Option Addr} {n c : Nat} {l : List Ov} {w : World} (h : RowS cellsO 5 w A n c l) :
    Calls Try.prog 7 #[.slice A n c] w fun e w' => (∃ b, e = .returned (.bool b) ∧ (b = true → n ≤ 200 ∧ ∀ x ∈ l, x.d = 2 → 0 ≤ x.lba)) ∧ Below w.heap.size w w' := by
  have HR := Lib.hid h
  have hbig := h.big
  have hlen := Lib.hid h.len
  clear h
  go_enter Try.func7, Try.ntmps7
  go_wp2_with fail
  go_loopw [4, 7] (fun _ i wr => ∃ k : Nat, i = .int .i64 k ∧ k ≤ n ∧ Hid (Below w.heap.size w wr ∧ ∀ x ∈ l.take k, x.d = 2 → 0 ≤ x.lba)) (fun _ i _ => n - (intOf i).toNat)
  case atStart => exact ⟨0, rfl, by omega, Below.refl _ _, fun x hx => by simp at hx⟩
  case round =>
    obtain ⟨k, rfl, hk, hH⟩ := hrel
    have LR := Lib.hid hH.out.1
    have IR := Lib.hid hH.out.2
    clear hH
    by_cases hlt : k < n
    · obtain ⟨o, ho⟩ := HR.out.get hlt
      obtain ⟨b, p, hA, d0, d1, d2, d3, d4⟩ := op_at (HR.out.below LR.out) ho
      subst hA
      have hk0 : (0 : Int) ≤ (k : Int) := by omega
      have hkn : (k : Int) < (n : Int) := by omega
      have L5 : Hid (Below w.heap.size w (wr.alloc (.cells #[.int .i64 o.d, .int .i64 o.lba, .int .i64 o.ver, .int .i64 o.n, .bool o.long] 29))) := LR.out.alloc LR.out.size _
      have B5 : Hid (OpBox (wr.alloc (.cells #[.int .i64 o.d, .int .i64 o.lba, .int .i64 o.ver, .int .i64 o.n, .bool o.long] 29)) wr.heap.size o) := Cells.new _ _ _
      obtain ⟨n0, n1, n2, n3, n4⟩ := OpBox.cells B5.out
      go_upto_region 4 with fail
      generalize wr.alloc (.cells #[.int .i64 o.d, .int .i64 o.lba, .int .i64 o.ver, .int .i64 o.n, .bool o.long] 29) = w5 at *
      clear d0 d1 d2 d3 d4
      have HN : Hid (¬ (o.d = 2 ∧ o.lba < 0) → ∀ x ∈ l.take (k + 1), x.d = 2 → 0 ≤ x.lba) := fun h x hx h2 => by
        rw [List.take_add_one, ho] at hx
        rcases List.mem_append.1 hx with hx | hx
        · exact IR.out x hx h2
        · simp at hx
          subst hx
          rcases Int.lt_or_le x.lba 0 with h3 | h3
          · exact absurd ⟨h2, h3⟩ h
          · exact h3
      clear ho
      rcases e1 : (o.d == 2)
      · have HK := Lib.hid (HN.out (fun h => by have : (o.d == 2) = true := by simpa using h.1
                                                rw [e1] at this; cases this))
        rcases e3 : (o.d == 3)
        · go_wp2_with fail
          go_roundw
          case rel => exact ⟨k + 1, by go_num, by omega, L5.out, HK.out⟩
          case measure => simp [intOf]; omega
        · rcases e4 : decide ((20 : Int) < o.n)
          · rcases e5 : decide ((1099511627776 : Int) < o.lba)
            · go_wp2_with fail
              go_roundw
              case rel => exact ⟨k + 1, by go_num, by omega, L5.out, HK.out⟩
              case measure => simp [intOf]; omega
            · go_wp2_with fail
              go_ret
              exact ⟨⟨false, rfl, fun h => by cases h⟩, L5.out⟩
          · go_wp2_with fail
            go_ret
            exact ⟨⟨false, rfl, fun h => by cases h⟩, L5.out⟩
      · rcases e2 : decide (o.lba < 0)
        · have HK := Lib.hid (HN.out (fun h => by have := of_decide_eq_false e2; omega))
          have e3 : (o.d == 3) = false := by simp only [beq_iff_eq] at e1; simp [e1]
          go_wp2_with fail
          go_roundw
          case rel => exact ⟨k + 1, by go_num, by omega, L5.out, HK.out⟩
          case measure => simp [intOf]; omega
        · go_wp2_with fail
          go_ret
          exact ⟨⟨false, rfl, fun h => by cases h⟩, L5.out⟩
    · obtain rfl : k = n := by omega
      rcases e1 : decide ((k : Int) ≤ 200)
      · go_wp2_with fail
        go_ret
        exact ⟨⟨false, rfl, fun h => by cases h⟩, LR.out⟩
      · have hk2 : k ≤ 200 := by have := of_decide_eq_true e1; omega
        go_wp2_with fail
        go_ret
        exact ⟨⟨true, rfl, fun _ => ⟨hk2, fun x hx => IR.out x (by rw [List.take_of_length_le (by have := hlen.out; omega)]; exact hx)⟩⟩, LR.out⟩

set_option maxRecDepth 100000 in
set_option maxHeartbeats 6400000 in
theorem there_any {base : Nat} {w : World} {g r : Nat} {m h s : Int} {ns : List Nd} {k : Key} (H : CB base w g r m ns h s) (hlen : ns.length ≤ 100000) :
    Calls Try.prog 11 #[.pointer (some ⟨g, 0, none⟩), .agg #[.int .i64 k.1, .int .i64 k.2]] w fun e w' => e = .returned (.bool (decide (k ∈ keysL ns))) ∧ Below w.heap.size w w' := by
  have HC := Lib.hid H
  have L1 : Hid (Below w.heap.size w (w.alloc (.cells #[.int .i64 k.1, .int .i64 k.2] 34))) := (Below.refl _ w).alloc (Nat.le_refl _) _
  have B1 : Hid (KeyBox (w.alloc (.cells #[.int .i64 k.1, .int .i64 k.2] 34)) w.heap.size k) := Cells.new _ _ _
  have C1 := Lib.hid (H.below L1.out)
  have HK := Lib.hid (keys_any C1.out.at_ hlen)
  obtain ⟨n, hn⟩ : ∃ n, n = ns.length := ⟨_, rfl⟩
  rw [← hn] at HK
  have hbd : n ≤ 100000 := by omega
  have HN := Lib.hid hn
  have heq := key_equal
  have hgd := key_guard
  clear H hn
  go_enter Try.func11, Try.ntmps11
  go_upto_region 1 with fail
  generalize w.alloc (.cells #[.int .i64 k.1, .int .i64 k.2] 34) = w1 at *
  go_wp2_with fail
  refine HK.out.mono ?_
  rintro e w2 ⟨⟨A, c, rfl, hR⟩, hB⟩
  have L2 := Lib.hid (L1.out.trans (hB.mono L1.out.size))
  have B2 := Lib.hid (Cells.below B1.out hB)
  have R2 := Lib.hid hR
  clear hR hB HK
  go_wp2_with fail
  go_loopw [6, 10] (fun _ i wr => ∃ j : Nat, i = .int .i64 j ∧ j ≤ n ∧ Hid (Below w2.heap.size w2 wr ∧ ∀ x ∈ (keysL ns).take j, x ≠ k)) (fun _ i _ => n - (intOf i).toNat)
  case atStart => exact ⟨0, rfl, by omega, Below.refl _ _, fun x hx => by simp at hx⟩
  case round =>
    obtain ⟨j, rfl, hj, hH⟩ := hrel
    have LR := Lib.hid hH.out.1
    have IR := Lib.hid hH.out.2
    clear hH
    have LW := Lib.hid (L2.out.trans (LR.out.mono L2.out.size))
    by_cases hlt : j < n
    · obtain ⟨x, hx⟩ := R2.out.get hlt
      obtain ⟨b, p, hA, d0, d1⟩ := key_at (R2.out.below LR.out) hx
      subst hA
      have hk0 : (0 : Int) ≤ (j : Int) := by omega
      have hkn : (j : Int) < (n : Int) := by omega
      have L5 : Hid (Below w2.heap.size w2 (wr.alloc (.cells #[.int .i64 x.1, .int .i64 x.2] 34))) := LR.out.alloc LR.out.size _
      have L6 : Hid (Below w.heap.size w (wr.alloc (.cells #[.int .i64 x.1, .int .i64 x.2] 34))) := LW.out.alloc LW.out.size _
      have X5 : Hid (KeyBox (wr.alloc (.cells #[.int .i64 x.1, .int .i64 x.2] 34)) wr.heap.size x) := Cells.new _ _ _
      have K5 := Lib.hid (Cells.below B2.out L5.out)
      go_upto_region 4 with fail
      generalize wr.alloc (.cells #[.int .i64 x.1, .int .i64 x.2] 34) = w5 at *
      obtain ⟨n0, n1⟩ := KeyBox.cells X5.out
      obtain ⟨m0, m1⟩ := KeyBox.cells K5.out
      have HX := Lib.hid hx
      clear d0 d1 hx
      rcases e1 : (x.1 == k.1 && x.2 == k.2)
      · have HT : Hid (∀ y ∈ (keysL ns).take (j + 1), y ≠ k) := fun y hy => by
          rw [List.take_add_one, HX.out] at hy
          rcases List.mem_append.1 hy with hy | hy
          · exact IR.out y hy
          · simp at hy
            subst hy
            rintro rfl
            simp at e1
        go_wp2_with fail
        go_roundw
        case rel => exact ⟨j + 1, by go_num, by omega, L5.out, HT.out⟩
        case measure => simp [intOf]; omega
      · have HT : Hid (k ∈ keysL ns) := by
          show k ∈ _
          have : x = k := by simp at e1; exact Prod.ext e1.1 e1.2
          rw [← this]
          exact List.mem_of_getElem? HX.out
        go_wp2_with fail
        go_ret
        exact ⟨by rw [decide_eq_true HT.out]; rfl, L6.out⟩
    · obtain rfl : j = n := by omega
      have HT : Hid (k ∉ keysL ns) := fun hm => IR.out k (by rw [List.take_of_length_le (by have := R2.out.len; omega)]; exact hm) rfl
      go_wp2_with fail
      go_ret
      exact ⟨by rw [decide_eq_false HT.out]; rfl, LW.out⟩
end Cac
end Go.Proofs.Ytfngebikihdogaa
