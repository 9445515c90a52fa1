/-
  WALKS OVER seg'S TESTS OF A RECORD: numbersOf, nowhere, blocksMayBe, bytesOf, numbersMayBe, Check, Sameness.
-/
import Derived.Test.YtedandbkdjmfhaaMem
import Derived.Test.YtedandbkdjmfhaaSegMath
import Derived.Test.YtedandbkdjmfhaaWireFix
import Derived.LoopTactic
import Derived.Deep.LoopGhost
import Derived.BigQuiet
namespace Go.Proofs.Ytedandbkdjmfhaa
open Go.RowKit Mem
namespace Seg
open Wire

/-- A record as a value. -/
def recV (r : Rc) (D : Option Addr) (n c : Nat) : Value := .agg #[.int .i64 r.kind, .int .i64 r.lba, .int .i64 r.n, .int .i64 r.ver, .int .i64 r.zone, .int .i64 r.off, .slice D n c]
/-- Its numbers as a value. -/
def numsV (r : Rc) : Value := .agg #[.int .i64 r.kind, .int .i64 r.lba, .int .i64 r.n, .int .i64 r.ver, .int .i64 r.zone, .int .i64 r.off]

set_option maxRecDepth 100000 in
set_option maxHeartbeats 800000 in
theorem numbersOf_any (r : Rc) (D : Option Addr) (n c : Nat) (w : World) :
    Calls Try.prog 35 #[recV r D n c] w fun e w' => e = .returned (numsV r) ∧ Below w.heap.size w w' := by
  obtain ⟨a0, a1, a2, a3, a4, a5, dd⟩ := r
  unfold recV numsV
  go_enter Try.func35, Try.ntmps35
  go_wp2
  refine bodyPost_ret_by (results_cell_row rfl _ _ (w.heap.size + 1) _ _ _ _ rfl (heap_alloc2_new w _ _) Try.underlying77 rfl (by kernel_rfl)) rfl ?_
  exact ⟨rfl, ((Below.refl _ w).alloc (Nat.le_refl _) _).alloc (by simp) _⟩

set_option maxRecDepth 100000 in
set_option maxHeartbeats 800000 in
theorem nowhere_any (r : Rc) (D : Option Addr) (n c : Nat) (w : World) :
    Calls Try.prog 51 #[recV r D n c] w fun e w' => e = .returned (.bool (nowhereB r)) ∧ Below w.heap.size w w' := by
  obtain ⟨a0, a1, a2, a3, a4, a5, dd⟩ := r
  unfold recV nowhereB
  go_enter Try.func51, Try.ntmps51
  go_wp2
  all_goals (go_ret; refine ⟨ret_bool ?_, (Below.refl _ _).alloc (Nat.le_refl _) _⟩; simp_all)

set_option maxRecDepth 100000 in
set_option maxHeartbeats 800000 in
theorem blocksMayBe_any (r : Rc) (h0 : 0 ≤ r.n) (D : Option Addr) (n c : Nat) (m : Int) (w : World) (hf : fits (nums r)) :
    Calls Try.prog 50 #[recV r D n c, .int .i64 m] w fun e w' => e = .returned (.bool (blocksB r m)) ∧ Below w.heap.size w w' := by
  obtain ⟨a0, a1, a2, a3, a4, a5, dd⟩ := r
  have h2 : a2 < 9223372036854775808 := hf _ (by simp [nums])
  simp only at h0
  unfold recV blocksB
  go_enter Try.func50, Try.ntmps50
  go_wp2
  all_goals (go_ret; refine ⟨ret_bool ?_, (Below.refl _ _).alloc (Nat.le_refl _) _⟩)
  all_goals (rw [Bool.eq_iff_iff]; simp only [Bool.and_eq_true, decide_eq_true_eq, Bool.false_eq_true]; constructor <;> intro hq <;> first | omega | exact hq.elim)

set_option maxRecDepth 100000 in
set_option maxHeartbeats 800000 in
/-- 16 n goes into an int. -/
theorem bytesOf_any (r : Rc) (D : Option Addr) (n c : Nat) (w : World) (h : r.kind = 1 ∨ r.kind = 5 → 0 ≤ r.n ∧ r.n ≤ 256) :
    Calls Try.prog 40 #[recV r D n c] w fun e w' => e = .returned (.int .i64 (bytesOf r)) ∧ Below w.heap.size w w' := by
  obtain ⟨a0, a1, a2, a3, a4, a5, dd⟩ := r
  simp only at h
  unfold recV bytesOf
  simp only
  by_cases h1 : a0 = 1
  · subst h1
    obtain ⟨h2, h3⟩ := h (.inl rfl)
    go_enter Try.func40, Try.ntmps40
    go_wp2
    all_goals (go_ret; exact ⟨rfl, (Below.refl _ _).alloc (Nat.le_refl _) _⟩)
  · by_cases h5 : a0 = 5
    · subst h5
      obtain ⟨h2, h3⟩ := h (.inr rfl)
      go_enter Try.func40, Try.ntmps40
      go_wp2
      all_goals (go_ret; exact ⟨rfl, (Below.refl _ _).alloc (Nat.le_refl _) _⟩)
    · rw [if_neg h1, if_neg h5]
      have e1 : (a0 == 1) = false := beq_eq_false_iff_ne.2 h1
      have e5 : (a0 == 5) = false := beq_eq_false_iff_ne.2 h5
      clear h h1 h5
      go_enter Try.func40, Try.ntmps40
      go_wp2
      all_goals (go_ret; exact ⟨rfl, (Below.refl _ _).alloc (Nat.le_refl _) _⟩)

set_option maxRecDepth 100000 in
set_option maxHeartbeats 800000 in
/-- slices.Min of a row that is not empty: below 0 where one of them is. -/
theorem min_any {A : Option Addr} {n c : Nat} {l : List Int} {w : World} (h : Row ci w A n c l) (h0 : 0 < n) :
    Calls Try.prog 49 #[.slice A n c] w fun e w' => (∃ m, e = .returned (.int .i64 m) ∧ (0 ≤ m ↔ nn l)) ∧ w = w' := by
  have HR := Lib.hid h
  have hb := h.big
  obtain ⟨b, o, rfl, hlt, -⟩ := h.at_ h0
  obtain ⟨z0, hz0⟩ := h.get h0
  have hc0 : w.cell? ⟨b, o, none⟩ = some (.int .i64 z0) := by
    obtain ⟨b', o', e, hc⟩ := h.cell hz0
    injection e with e
    injection e with e1 e2
    subst e1 e2
    exact hc
  clear h
  have HZ := Lib.hid hz0
  clear hz0
  go_enter Try.func49, Try.ntmps49
  go_wp2
  go_loop [3, 4] (fun x i => ∃ (k : Nat) (m : Int), 1 ≤ k ∧ k ≤ n ∧ i = .int .i64 k ∧ x = .int .i64 m ∧ Hid (0 ≤ m ↔ nn (l.take k))) (fun _ i => n - (intOf i).toNat)
  case atStart =>
    refine ⟨1, z0, by omega, by omega, rfl, rfl, ?_⟩
    show 0 ≤ z0 ↔ nn _
    rw [show l.take 1 = [z0] by have := HZ.out; rw [List.take_add_one, this]; simp]
    simp [nn]
  case round =>
    obtain ⟨k, m, hk1, hk, rfl, rfl, hM⟩ := hrel
    by_cases hkn : k < n
    · obtain ⟨z, hz⟩ := HR.out.get hkn
      have hcell : w.cell? ⟨b, o + k, none⟩ = some (.int .i64 z) := by
        obtain ⟨b', o', e, hc⟩ := HR.out.cell hz
        injection e with e
        injection e with e1 e2
        subst e1 e2
        exact hc
      have HZ2 := Lib.hid hz
      clear hz
      go_wp2
      go_round
      case rel =>
        refine ⟨k + 1, _, by omega, by omega, by go_num, rfl, ?_⟩
        have hm := hM.out
        have hz := HZ2.out
        show _ ↔ nn _
        rw [show l.take (k + 1) = l.take k ++ [z] by rw [List.take_add_one, hz]; rfl]
        have : nn (l.take k ++ [z]) ↔ nn (l.take k) ∧ 0 ≤ z := by
          unfold nn
          constructor
          · intro h
            exact ⟨fun x hx => h x (by simp [hx]), h z (by simp)⟩
          · rintro ⟨h1, h2⟩ x hx
            rcases List.mem_append.1 hx with hx | hx
            · exact h1 x hx
            · simp at hx; omega
        rw [this, ← hm]
        split <;> omega
      case measure => simp [intOf]; omega
    · have hkn : l.take k = l := List.take_of_length_le (by have := HR.out.len; omega)
      have HK := Lib.hid hkn
      clear hkn
      go_wp2
      go_ret
      exact ⟨⟨m, rfl, by have := hM.out; rwa [HK.out] at this⟩, rfl⟩

theorem fits_of {r : Rc} (h : fits (nums r)) : r.n < 9223372036854775808 := h _ (by simp [nums])
theorem nn_n {r : Rc} (h : nn (nums r)) : 0 ≤ r.n := h _ (by simp [nums])
/-- The six numbers in a block. -/
theorem row_nums {w : World} {g : Nat} {t : TypeId} {a0 a1 a2 a3 a4 a5 : Int} (h : w.heap[g]? = some (.cells #[.int .i64 a0, .int .i64 a1, .int .i64 a2, .int .i64 a3, .int .i64 a4, .int .i64 a5] t (0, 0))) :
    Row ci w (some ⟨g, 0, none⟩) 6 6 [a0, a1, a2, a3, a4, a5] := by
  refine ⟨rfl, by omega, by omega, fun _ => ⟨g, 0, rfl, (Array.getElem?_eq_some_iff.1 h).1, fun i x hi => ?_⟩⟩
  rw [cell_of_row w g (0 + i) _ _ _ h]
  match i, hi with
  | 0, hi => simp at hi; subst hi; rfl
  | 1, hi => simp at hi; subst hi; rfl
  | 2, hi => simp at hi; subst hi; rfl
  | 3, hi => simp at hi; subst hi; rfl
  | 4, hi => simp at hi; subst hi; rfl
  | 5, hi => simp at hi; subst hi; rfl

/-- A record in a block of its own: the seven cells. -/
def Box (w : World) (g : Nat) (r : Rc) (D : Option Addr) (n c : Nat) : Prop := w.heap[g]? = some (.cells #[.int .i64 r.kind, .int .i64 r.lba, .int .i64 r.n, .int .i64 r.ver, .int .i64 r.zone, .int .i64 r.off, .slice D n c] 34 (0, 0))
theorem Box.lt {w : World} {g : Nat} {r : Rc} {D : Option Addr} {n c : Nat} (h : Box w g r D n c) : g < w.heap.size := (Array.getElem?_eq_some_iff.1 h).1
theorem Box.below {w w' : World} {g : Nat} {r : Rc} {D : Option Addr} {n c : Nat} (h : Box w g r D n c) (hb : Below w.heap.size w w') : Box w' g r D n c := (hb.block g h.lt).trans h
theorem Box.alloc {w : World} {g : Nat} {r : Rc} {D : Option Addr} {n c : Nat} (h : Box w g r D n c) (o : Obj) : Box (w.alloc o) g r D n c := h.below ((Below.refl _ w).alloc (Nat.le_refl _) o)
theorem Box.cells {w : World} {g : Nat} {r : Rc} {D : Option Addr} {n c : Nat} (h : Box w g r D n c) :
    w.cell? ⟨g, 0, none⟩ = some (.int .i64 r.kind) ∧ w.cell? ⟨g, 1, none⟩ = some (.int .i64 r.lba) ∧ w.cell? ⟨g, 2, none⟩ = some (.int .i64 r.n) ∧ w.cell? ⟨g, 3, none⟩ = some (.int .i64 r.ver) ∧ w.cell? ⟨g, 4, none⟩ = some (.int .i64 r.zone) ∧ w.cell? ⟨g, 5, none⟩ = some (.int .i64 r.off) ∧ w.cell? ⟨g, 6, none⟩ = some (.slice D n c) := by
  have hc := fun i => cell_of_row w g i _ _ _ (h : w.heap[g]? = some (.cells _ _ (0, 0)))
  exact ⟨hc 0, hc 1, hc 2, hc 3, hc 4, hc 5, hc 6⟩
theorem Box.new (w : World) (r : Rc) (D : Option Addr) (n c : Nat) : Box (w.alloc (.cells #[.int .i64 r.kind, .int .i64 r.lba, .int .i64 r.n, .int .i64 r.ver, .int .i64 r.zone, .int .i64 r.off, .slice D n c] 34)) w.heap.size r D n c := heap_alloc_new w _

/-- What may be of the numbers, once none is below 0. -/
def kindB (r : Rc) : Bool :=
  if r.kind = 1 then blocksB r 256 && nowhereB r
  else if r.kind = 2 then blocksB r 1099511627776 && nowhereB r
  else if r.kind = 3 then blocksB r 1099511627776
  else if r.kind = 4 then (r.lba == 0) && ((r.n == 0) && nowhereB r)
  else if r.kind = 5 then blocksB r 256
  else false

set_option maxRecDepth 100000 in
set_option maxHeartbeats 1600000 in
theorem numbersMayBe_any (r : Rc) (hf : fits (nums r)) (D : Option Addr) (n c : Nat) (w : World) :
    Calls Try.prog 39 #[recV r D n c] w fun e w' => e = .returned (.bool (mayB r)) ∧ Below w.heap.size w w' := by
  have HF := Lib.hid hf
  have HO := fun w => Lib.hid (numbersOf_any r D n c w)
  have HW := fun w => Lib.hid (nowhere_any r D n c w)
  have HB := fun (h0 : 0 ≤ r.n) m w => Lib.hid (blocksMayBe_any r h0 D n c m w hf)
  have B1 := Lib.hid (Box.new w r D n c)
  have L1 := Lib.hid ((Below.refl w.heap.size w).alloc (Nat.le_refl _) (.cells #[.int .i64 r.kind, .int .i64 r.lba, .int .i64 r.n, .int .i64 r.ver, .int .i64 r.zone, .int .i64 r.off, .slice D n c] 34))
  have hm : Hid (mayB r = if nn (nums r) then kindB r else false) := by show _ = _; unfold mayB kindB; rfl
  unfold recV numsV at *
  clear hf
  go_enter Try.func39, Try.ntmps39
  go_wp2_with fail
  generalize hw1 : w.alloc (.cells #[.int .i64 r.kind, .int .i64 r.lba, .int .i64 r.n, .int .i64 r.ver, .int .i64 r.zone, .int .i64 r.off, .slice D n c] 34) = w1 at *
  refine (HO w1).out.mono ?_
  rintro e w2 ⟨rfl, hb2⟩
  have L2 := Lib.hid (L1.out.trans (hb2.mono L1.out.size))
  have B2 := Lib.hid (B1.out.below hb2)
  clear hb2 hw1 B1 L1
  go_wp2_with fail
  refine (min_any (row_nums (heap_alloc_new w2 _)) (by omega)).mono ?_
  rintro e w3 ⟨⟨m, rfl, hm0⟩, rfl⟩
  have L3 := Lib.hid (L2.out.alloc L2.out.size (.cells #[.int .i64 r.kind, .int .i64 r.lba, .int .i64 r.n, .int .i64 r.ver, .int .i64 r.zone, .int .i64 r.off] 77))
  have B3 := Lib.hid (B2.out.alloc (.cells #[.int .i64 r.kind, .int .i64 r.lba, .int .i64 r.n, .int .i64 r.ver, .int .i64 r.zone, .int .i64 r.off] 77))
  generalize w2.alloc (.cells #[.int .i64 r.kind, .int .i64 r.lba, .int .i64 r.n, .int .i64 r.ver, .int .i64 r.zone, .int .i64 r.off] 77) = w3 at *
  have HM := Lib.hid hm0
  obtain ⟨c0, c1, c2, c3, c4, c5, c6⟩ := B3.out.cells
  clear L2 B2 hm0
  by_cases hneg : m < 0
  · go_wp2_with fail
    go_ret
    refine ⟨ret_bool ?_, L3.out⟩
    have := HM.out
    rw [hm.out, if_neg (fun h => by have := this.2 h; omega)]
  · have hnn : Hid (nn (nums r)) := HM.out.1 (by omega)
    have h0 := nn_n hnn.out
    have hmay : Hid (mayB r = kindB r) := by show _ = _; rw [hm.out, if_pos hnn.out]
    have HB := HB h0
    clear hm HM
    have ek : Hid (kindB r = if (r.kind == 1) = true then blocksB r 256 && nowhereB r else if (r.kind == 2) = true then blocksB r 1099511627776 && nowhereB r else if (r.kind == 3) = true then blocksB r 1099511627776
      else if (r.kind == 4) = true then (r.lba == 0) && ((r.n == 0) && nowhereB r) else if (r.kind == 5) = true then blocksB r 256 else false) := by show _ = _; unfold kindB; simp only [beq_iff_eq]
    rcases e1 : (r.kind == 1)
    · rcases e2 : (r.kind == 2)
      · rcases e3 : (r.kind == 3)
        · rcases e4 : (r.kind == 4)
          · rcases e5 : (r.kind == 5)
            · go_wp2_with fail
              go_ret
              exact ⟨ret_bool (by rw [hmay.out, ek.out]; simp [e1, e2, e3, e4, e5]), L3.out⟩
            · go_wp2_with (go_at_call 50; refine (HB _ _).out.mono ?_; rintro e w4 ⟨rfl, hb⟩; have L4 := Lib.hid (L3.out.trans (hb.mono L3.out.size)); have B4 := Lib.hid (B3.out.below hb); obtain ⟨d0, d1, d2, d3, d4, d5, d6⟩ := B4.out.cells; clear hb)
              go_ret
              exact ⟨ret_bool (by rw [hmay.out, ek.out]; simp [e1, e2, e3, e4, e5]), L4.out⟩
          · rcases f1 : (r.lba == 0)
            · go_wp2_with fail
              go_ret
              exact ⟨ret_bool (by rw [hmay.out, ek.out]; simp [e1, e2, e3, e4, f1]), L3.out⟩
            · rcases f2 : (r.n == 0)
              · go_wp2_with fail
                go_ret
                exact ⟨ret_bool (by rw [hmay.out, ek.out]; simp [e1, e2, e3, e4, f1, f2]), L3.out⟩
              · go_wp2_with (go_at_call 51; refine (HW _).out.mono ?_; rintro e w5 ⟨rfl, hb⟩; have L5 := Lib.hid (L3.out.trans (hb.mono L3.out.size)); clear hb)
                go_ret
                exact ⟨ret_bool (by rw [hmay.out, ek.out]; simp [e1, e2, e3, e4, f1, f2]), L5.out⟩
        · go_wp2_with (go_at_call 50; refine (HB _ _).out.mono ?_; rintro e w4 ⟨rfl, hb⟩; have L4 := Lib.hid (L3.out.trans (hb.mono L3.out.size)); have B4 := Lib.hid (B3.out.below hb); obtain ⟨d0, d1, d2, d3, d4, d5, d6⟩ := B4.out.cells; clear hb)
          go_ret
          exact ⟨ret_bool (by rw [hmay.out, ek.out]; simp [e1, e2, e3]), L4.out⟩
      · rcases hbb : blocksB r 1099511627776
        · go_wp2_with (go_at_call 50; refine (HB _ _).out.mono ?_; rintro e w4 ⟨rfl, hb⟩; have L4 := Lib.hid (L3.out.trans (hb.mono L3.out.size)); have B4 := Lib.hid (B3.out.below hb); obtain ⟨d0, d1, d2, d3, d4, d5, d6⟩ := B4.out.cells; clear hb)
          go_ret
          exact ⟨ret_bool (by rw [hmay.out, ek.out]; simp [e1, e2, hbb]), L4.out⟩
        · go_wp2_with (first | (go_at_call 50; refine (HB _ _).out.mono ?_; rintro e w4 ⟨rfl, hb⟩; have L4 := Lib.hid (L3.out.trans (hb.mono L3.out.size)); have B4 := Lib.hid (B3.out.below hb); obtain ⟨d0, d1, d2, d3, d4, d5, d6⟩ := B4.out.cells; clear hb) | (go_at_call 51; refine (HW _).out.mono ?_; rintro e w5 ⟨rfl, hb⟩; have L5 := Lib.hid (L4.out.trans (hb.mono L4.out.size)); clear hb))
          go_ret
          exact ⟨ret_bool (by rw [hmay.out, ek.out]; simp [e1, e2, hbb]), L5.out⟩
    · rcases hbb : blocksB r 256
      · go_wp2_with (go_at_call 50; refine (HB _ _).out.mono ?_; rintro e w4 ⟨rfl, hb⟩; have L4 := Lib.hid (L3.out.trans (hb.mono L3.out.size)); have B4 := Lib.hid (B3.out.below hb); obtain ⟨d0, d1, d2, d3, d4, d5, d6⟩ := B4.out.cells; clear hb)
        go_ret
        exact ⟨ret_bool (by rw [hmay.out, ek.out]; simp [e1, hbb]), L4.out⟩
      · go_wp2_with (first | (go_at_call 50; refine (HB _ _).out.mono ?_; rintro e w4 ⟨rfl, hb⟩; have L4 := Lib.hid (L3.out.trans (hb.mono L3.out.size)); have B4 := Lib.hid (B3.out.below hb); obtain ⟨d0, d1, d2, d3, d4, d5, d6⟩ := B4.out.cells; clear hb) | (go_at_call 51; refine (HW _).out.mono ?_; rintro e w5 ⟨rfl, hb⟩; have L5 := Lib.hid (L4.out.trans (hb.mono L4.out.size)); clear hb))
        go_ret
        exact ⟨ret_bool (by rw [hmay.out, ek.out]; simp [e1, hbb]), L5.out⟩
end Seg
end Go.Proofs.Ytedandbkdjmfhaa
