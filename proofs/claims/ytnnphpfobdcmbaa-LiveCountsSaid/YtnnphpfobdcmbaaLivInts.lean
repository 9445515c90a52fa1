/-
  WALKS OVER ints: slices.Contains, the document's In and SameInts, cmp.Compare, cmp.Or of two.
-/
import Derived.Test.YtnnphpfobdcmbaaLivCheck
import Derived.Test.YtnnphpfobdcmbaaZnsCheck
import Derived.Deep.DeepCutAuto
import Derived.Lib.LazyBuf
namespace Go.Proofs.Ytnnphpfobdcmbaa
open Go.RowKit Mem
namespace Liv

theorem has_snoc {l : List Int} {k : Nat} {y : Int} (hy : l[k]? = some y) (v : Int) : (l.take (k + 1)).contains v = ((l.take k).contains v || v == y) := by
  rw [List.take_add_one, hy, Option.toList_some, Bool.eq_iff_iff]
  simp
set_option maxRecDepth 100000 in
set_option maxHeartbeats 1600000 in
theorem index_any {A : Option Addr} {n c : Nat} {l : List Int} {w : World} (h : Row ci w A n c l) (v : Int) :
    Calls Try.prog 69 #[.slice A n c, .int .i64 v] w fun e w' => (∃ r : Int, e = .returned (.int .i64 r) ∧ decide (0 ≤ r) = l.contains v) ∧ Below w.heap.size w w' := by
  have HR := Lib.hid h
  have hbig := h.big
  have hlen := Lib.hid h.len
  clear h
  go_enter Try.func69, Try.ntmps69
  go_wp2
  go_loopw [5, 8] (fun _ i wr => ∃ k : Nat, i = .int .i64 k ∧ k ≤ n ∧ Hid (Below w.heap.size w wr ∧ (l.take k).contains v = false)) (fun _ i _ => n - (intOf i).toNat)
  case atStart => exact ⟨0, rfl, by omega, Below.refl _ _, by rfl⟩
  case round =>
    obtain ⟨k, rfl, hk, hH⟩ := hrel
    by_cases hlt : k < n
    · obtain ⟨y, hy⟩ := HR.out.get hlt
      obtain ⟨b, o, hA, c0⟩ := (HR.out.below hH.out.1).cell hy
      subst hA
      have c0' : wr.cell? ⟨b, o + k, none⟩ = some (.int .i64 y) := c0
      clear c0
      have hk0 : (0 : Int) ≤ (k : Int) := by omega
      have hkn : (k : Int) < (n : Int) := by omega
      have HS := Lib.hid (has_snoc hy v)
      have HM := Lib.hid (List.mem_of_getElem? hy)
      clear hy
      rcases e : (v == y)
      · have HE := Lib.hid e
        go_wp2_with fail
        go_roundw
        case rel => exact ⟨k + 1, by go_num, by omega, hH.out.1, by rw [HS.out, hH.out.2, HE.out]; rfl⟩
        case measure => simp [intOf]; omega
      · have HE := Lib.hid e
        go_wp2_with fail
        go_ret
        refine ⟨⟨_, rfl, ?_⟩, hH.out.1⟩
        have h1 : v = y := by simpa using HE.out
        have : l.contains v = true := List.contains_iff_mem.2 (by rw [h1]; exact HM.out)
        rw [this]
        exact decide_eq_true (by omega)
    · go_wp2_with fail
      go_ret
      refine ⟨⟨_, rfl, ?_⟩, hH.out.1⟩
      have := hH.out.2
      rw [List.take_of_length_le (by have := hlen.out; omega)] at this
      rw [this]; rfl
set_option maxRecDepth 100000 in
set_option maxHeartbeats 800000 in
theorem contains_any {A : Option Addr} {n c : Nat} {l : List Int} {w : World} (h : Row ci w A n c l) (v : Int) :
    Calls Try.prog 49 #[.slice A n c, .int .i64 v] w fun e w' => e = .returned (.bool (l.contains v)) ∧ Below w.heap.size w w' := by
  have HI := Lib.hid (index_any h v)
  clear h
  generalize l.contains v = r at HI
  go_enter Try.func49, Try.ntmps49
  go_wp2_with (go_at_call 69; refine HI.out.mono ?_; rintro e w2 ⟨⟨q, rfl, hq⟩, hb⟩; have L2 := Lib.hid hb; clear hb)
  go_ret
  exact ⟨by rw [← hq]; rfl, L2.out⟩

set_option maxRecDepth 100000 in
set_option maxHeartbeats 1600000 in
theorem in_any {A : Option Addr} {n c : Nat} {l : List Int} {w : World} (h : Row ci w A n c l) (v : Int) :
    Calls Try.prog 17 #[.slice A n c, .int .i64 v] w fun e w' => e = .returned (.bool (l.contains v)) ∧ Below w.heap.size w w' := by
  have HR := Lib.hid h
  have hbig := h.big
  have hlen := Lib.hid h.len
  clear h
  go_enter Try.func17, Try.ntmps17
  go_wp2
  go_loopw [6, 9] (fun _ i wr => ∃ k : Nat, i = .int .i64 k ∧ k ≤ n ∧ Hid (Below w.heap.size w wr ∧ (l.take k).contains v = false)) (fun _ i _ => n - (intOf i).toNat)
  case atStart => exact ⟨0, rfl, by omega, Below.refl _ _, by rfl⟩
  case round =>
    obtain ⟨k, rfl, hk, hH⟩ := hrel
    by_cases hlt : k < n
    · obtain ⟨y, hy⟩ := HR.out.get hlt
      obtain ⟨b, o, hA, c0⟩ := (HR.out.below hH.out.1).cell hy
      subst hA
      have c0' : wr.cell? ⟨b, o + k, none⟩ = some (.int .i64 y) := c0
      clear c0
      have hk0 : (0 : Int) ≤ (k : Int) := by omega
      have hkn : (k : Int) < (n : Int) := by omega
      have HS := Lib.hid (has_snoc hy v)
      have HM := Lib.hid (List.mem_of_getElem? hy)
      clear hy
      rcases e : (y == v)
      · have HE := Lib.hid e
        go_wp2_with fail
        go_roundw
        case rel => exact ⟨k + 1, by go_num, by omega, hH.out.1, by rw [HS.out, hH.out.2]; have := HE.out; simp only [beq_eq_false_iff_ne, ne_eq, Bool.false_or] at *; exact fun h => this h.symm⟩
        case measure => simp [intOf]; omega
      · have HE := Lib.hid e
        go_wp2_with fail
        go_ret
        refine ⟨?_, hH.out.1⟩
        have h1 : y = v := by simpa using HE.out
        have : l.contains v = true := List.contains_iff_mem.2 (by rw [← h1]; exact HM.out)
        rw [this]; rfl
    · go_wp2_with fail
      go_ret
      refine ⟨?_, hH.out.1⟩
      have := hH.out.2
      rw [List.take_of_length_le (by have := hlen.out; omega)] at this
      rw [this]; rfl

set_option maxRecDepth 100000 in
set_option maxHeartbeats 800000 in
/-- The document's own comparison, of two rows that read alike. -/
theorem sameInts_any {A B : Option Addr} {n c m d : Nat} {l : List Int} {w : World} (h1 : Row ci w A n c l) (h2 : Row ci w B m d l) :
    Calls Try.prog 20 #[.slice A n c, .slice B m d] w fun e w' => e = .returned (.bool true) ∧ Below w.heap.size w w' := by
  obtain rfl : n = m := by rw [← h1.len, h2.len]
  have H1 := Lib.hid h1
  have H2 := Lib.hid h2
  have hb := h1.big
  clear h1 h2
  go_enter Try.func20, Try.ntmps20
  go_wp2
  go_loopw [13] (fun i wr => ∃ k : Nat, i = .int .i64 k ∧ k ≤ n ∧ Hid (Below w.heap.size w wr)) (fun i _ => n - (intOf i).toNat)
  case atStart => exact ⟨0, rfl, by omega, Below.refl _ _⟩
  case round =>
    obtain ⟨k, rfl, hk, hB⟩ := hrel
    by_cases hlt : k < n
    · obtain ⟨z, hz⟩ := H1.out.get hlt
      obtain ⟨b1, o1, rfl, hc1⟩ := (H1.out.below hB.out).cell hz
      obtain ⟨b2, o2, rfl, hc2⟩ := (H2.out.below hB.out).cell hz
      have hc1' : wr.cell? ⟨b1, o1 + k, none⟩ = some (.int .i64 z) := hc1
      have hc2' : wr.cell? ⟨b2, o2 + k, none⟩ = some (.int .i64 z) := hc2
      have hk0 : (0 : Int) ≤ (k : Int) := by omega
      have hk1 : (k : Int) < (n : Int) := by omega
      clear hc1 hc2 hz
      go_wp2
      go_quiet (fail)
      go_wp2
      go_roundw
      case rel => exact ⟨k + 1, by go_num, by omega, below_drewN hB.out _⟩
      case measure => simp [intOf]; omega
    · go_wp2
      go_ret
      exact ⟨rfl, hB.out⟩

set_option maxRecDepth 100000 in
set_option maxHeartbeats 800000 in
theorem isNaN_any (a : Int) (w : World) : Calls Try.prog 44 #[.int .i64 a] w fun e w' => e = .returned (.bool false) ∧ w' = w := by
  go_enter Try.func44, Try.ntmps44
  go_wp2
  go_ret
  exact ⟨by simp, rfl⟩
/-- What cmp.Compare tells of two. -/
def cmpI (a b : Int) : Int := bif decide (a < b) then -1 else bif decide (b < a) then 1 else 0
set_option maxRecDepth 100000 in
set_option maxHeartbeats 1600000 in
theorem compare_any (a b : Int) (w : World) : Calls Try.prog 26 #[.int .i64 a, .int .i64 b] w fun e w' => e = .returned (.int .i64 (cmpI a b)) ∧ w' = w := by
  have HN := fun a w => Lib.hid (isNaN_any a w)
  unfold cmpI
  rcases e1 : decide (a < b)
  · rcases e2 : decide (b < a)
    · go_enter Try.func26, Try.ntmps26
      go_wp2_with (go_at_call 44; refine (HN _ _).out.mono ?_; rintro e w2 ⟨rfl, rfl⟩)
      go_ret
      exact ⟨rfl, rfl⟩
    · go_enter Try.func26, Try.ntmps26
      go_wp2_with (go_at_call 44; refine (HN _ _).out.mono ?_; rintro e w2 ⟨rfl, rfl⟩)
      go_ret
      exact ⟨rfl, rfl⟩
  · go_enter Try.func26, Try.ntmps26
    go_wp2_with (go_at_call 44; refine (HN _ _).out.mono ?_; rintro e w2 ⟨rfl, rfl⟩)
    go_ret
    exact ⟨rfl, rfl⟩
/-- cmp.Or of two numbers. -/
def orI (a b : Int) : Int := bif a == 0 then b else a
set_option maxRecDepth 100000 in
set_option maxHeartbeats 1600000 in
theorem or_any {q : Nat} (a b : Int) (w : World) (h0 : w.cell? ⟨q, 0, none⟩ = some (.int .i64 a)) (h1 : w.cell? ⟨q, 1, none⟩ = some (.int .i64 b)) :
    Calls Try.prog 25 #[.slice (some ⟨q, 0, none⟩) 2 2] w fun e w' => e = .returned (.int .i64 (orI a b)) ∧ w' = w := by
  unfold orI
  rcases e1 : (a == 0)
  · have e1' : (a != 0) = true := by simpa [bne] using e1
    clear e1
    go_enter Try.func25, Try.ntmps25
    go_wp2
    refine wp_loop_rounds 3 ?_
    rw [rounds_succ]
    go_wp2
    go_ret
    exact ⟨rfl, rfl⟩
  · have e1' : (a != 0) = false := by simpa [bne] using e1
    rcases e2 : (b == 0)
    · have e2' : (b != 0) = true := by simpa [bne] using e2
      clear e1 e2
      go_enter Try.func25, Try.ntmps25
      go_wp2
      refine wp_loop_rounds 3 ?_
      rw [rounds_succ]
      go_wp2
      rw [rounds_succ]
      go_wp2
      go_ret
      exact ⟨rfl, rfl⟩
    · have e2' : (b != 0) = false := by simpa [bne] using e2
      have e3 : b = 0 := by simpa using e2
      clear e1 e2
      go_enter Try.func25, Try.ntmps25
      go_wp2
      refine wp_loop_rounds 3 ?_
      rw [rounds_succ]
      go_wp2
      rw [rounds_succ]
      go_wp2
      rw [rounds_succ]
      go_wp2
      go_ret
      exact ⟨by rw [e3]; rfl, rfl⟩
end Liv
end Go.Proofs.Ytnnphpfobdcmbaa
