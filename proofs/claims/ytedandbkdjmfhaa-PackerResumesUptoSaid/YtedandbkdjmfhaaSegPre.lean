/-
  WHAT SegBack AND SegTurned BOTH ASK: headers compared, slices of records, a scan of frames that are known.
-/
import Derived.Test.YtedandbkdjmfhaaSegZeros
namespace Go.Proofs.Ytedandbkdjmfhaa
open Go.RowKit Mem
namespace Seg
open Wire

theorem neq_same_hdr (a : Hdr) (w : World) : (binOp .neq 23 (hdV a) (hdV a)).run Try.prog w = .ok (.bool false) w := by
  obtain ⟨a0, a1, a2⟩ := a
  unfold hdV
  go_simp
theorem eql_same_hdr (a : Hdr) (w : World) : (binOp .eql 23 (hdV a) (hdV a)).run Try.prog w = .ok (.bool true) w := by
  obtain ⟨a0, a1, a2⟩ := a
  unfold hdV
  go_simp

/-- s[:k] of a slice of records. -/
theorem run_headR (A : Option Addr) (n c k : Nat) (h : k ≤ c) (w : World) : (Instr.slice 24 (.slice A n c) none (some (.int .i64 (k : Int))) none).run Try.prog w = .ok (.slice A k c) w := by
  have hu := Try.underlying24
  have h1 : (0 : Int) ≤ (k : Int) := by omega
  have h2 : (k : Int) ≤ (c : Int) := by omega
  rcases A with _ | ad <;> go_simp
theorem RowR.head {w : World} {A : Option Addr} {n c : Nat} {xs : List Rv} (h : RowR w A n c xs) {k : Nat} (hk : k ≤ n) : RowR w A k c (xs.take k) := by
  have h1 := h.len
  have h2 := h.cap
  have h3 := h.big
  refine ⟨by simp; omega, by omega, by omega, fun h0 => ?_, fun x hx => h.data x (List.mem_of_mem_take hx)⟩
  obtain ⟨b, o, e, hlt, hc⟩ := h.at_ (by omega)
  refine ⟨b, o, e, hlt, fun i x hi j v hv => hc i x ?_ j v hv⟩
  rw [List.getElem?_take] at hi
  split at hi
  · exact hi
  · cases hi

/-- What Scan tells where it is known what there is. -/
def FndL (h : Hdr) (u0 : Nat) (l : List Rc) (w : World) (en : Ending) (w' : World) : Prop :=
  ∃ ys LA LC AA AC, en = .returned (.agg #[.bool true, .int .i64 h.host, .int .i64 h.epoch, .int .i64 h.seq, .slice LA l.length LC, .slice AA l.length AC, .int .i64 ((u0 + (frames l).length : Nat) : Int)]) ∧
    RowR w' LA l.length LC ys ∧ Row ci w' AA l.length AC (starts u0 (sized l)) ∧ ys.map Rv.r = l ∧ Below w.heap.size w w'
theorem scan_to {h : Hdr} {b : List B8} {l : List Rc} {A : Option Addr} {n c : Nat} {w : World} (hr : Row cb w A n c (frame (headX h) ++ b)) (hn : n ≤ 1000000) (hf : fits (hnums h)) (hnn : nn (hnums h)) (hs : Scans b (sized l)) :
    Calls Try.prog 13 #[.slice A n c] w (FndL h (frame (headX h)).length l w) := by
  refine (scan_found hr hn (headAt_seg h hf hnn b)).mono ?_
  rintro e w' ⟨acc, xs, LA, LC, AA, AC, h1, h2, rfl, h4, h5, h6, h7⟩
  rw [List.drop_left] at h1
  obtain rfl : acc = sized l := h1.det hs
  rw [sized_len] at h4 h5
  rw [sized_fst] at h6
  rw [sized_total, sized_len]
  exact ⟨xs, LA, LC, AA, AC, rfl, h4, h5, h6, h7⟩

/-- How many frames are whole ahead of a place; none where the header's own is not. -/
def kept (u0 : Nat) (l : List Rc) (C : Nat) : Nat := if u0 ≤ C then whole l (C - u0) else 0
theorem kept_le (u0 : Nat) (l : List Rc) (C : Nat) : kept u0 l C ≤ l.length := by
  unfold kept
  split
  · exact whole_le l _
  · omega
theorem kept_iff {u0 : Nat} {l : List Rc} {C k : Nat} (hk : k < l.length) : k < kept u0 l C ↔ u0 + (frames (l.take (k + 1))).length ≤ C := by
  unfold kept
  split
  · rw [whole_iff l _ k hk]; omega
  · omega
/-- What Scan tells of what was cut off. -/
def FndC (u0 : Nat) (l : List Rc) (C : Nat) (w : World) (en : Ending) (w' : World) : Prop :=
  ∃ (hb : Bool) (a0 a1 a2 : Int) (U : Nat) (ys : List Rv) (LA : Option Addr) (LC : Nat) (AA : Option Addr) (AC : Nat), en = .returned (.agg #[.bool hb, .int .i64 a0, .int .i64 a1, .int .i64 a2, .slice LA (kept u0 l C) LC, .slice AA (kept u0 l C) AC, .int .i64 (U : Int)]) ∧
    RowR w' LA (kept u0 l C) LC ys ∧ ys.map Rv.r = l.take (kept u0 l C) ∧ hb = decide (u0 ≤ C) ∧ U ≤ C ∧ (C < u0 → kept u0 l C = 0 ∧ U = 0) ∧ Below w.heap.size w w'
theorem scan_cut {h : Hdr} {l : List Rc} {A : Option Addr} {C c : Nat} {w : World} (hr : Row cb w A C c ((frame (headX h) ++ frames l).take C)) (hn : C ≤ 1000000) (hf : fits (hnums h)) (hnn : nn (hnums h)) (hg : ∀ r ∈ l, good r) :
    Calls Try.prog 13 #[.slice A C c] w (FndC (frame (headX h)).length l C w) := by
  by_cases hC : (frame (headX h)).length ≤ C
  · have hk : kept (frame (headX h)).length l C = whole l (C - (frame (headX h)).length) := by unfold kept; rw [if_pos hC]
    have e : (frame (headX h) ++ frames l).take C = frame (headX h) ++ (frames l).take (C - (frame (headX h)).length) := by
      rw [List.take_append, List.take_of_length_le hC]
    rw [e] at hr
    refine (scan_to hr hn hf hnn (scans_cut l _ hg)).mono ?_
    rintro en w' ⟨ys, LA, LC, AA, AC, rfl, h1, h2, h3, h4⟩
    have hl : (l.take (whole l (C - (frame (headX h)).length))).length = whole l (C - (frame (headX h)).length) := by rw [List.length_take]; have := whole_le l (C - (frame (headX h)).length); omega
    have hw := frames_whole l (C - (frame (headX h)).length)
    rw [hl] at h1 ⊢
    unfold FndC
    rw [hk]
    exact ⟨true, _, _, _, _, ys, LA, LC, AA, AC, rfl, h1, h3, by simp [hC], by omega, fun _ => by omega, h4⟩
  · have hk : kept (frame (headX h)).length l C = 0 := by unfold kept; rw [if_neg hC]
    have e : (frame (headX h) ++ frames l).take C = (frame (headX h)).take C := List.take_append_of_le_length (by omega)
    rw [e] at hr
    refine (scan_nothing hr hn (headAt_cut h hf hnn C (by omega))).mono ?_
    rintro en w' ⟨rfl, h4⟩
    unfold FndC
    rw [hk]
    exact ⟨false, 0, 0, 0, 0, [], none, 0, none, 0, rfl, ⟨rfl, by omega, by omega, fun h => absurd h (by omega), by simp⟩, by simp, by simp [hC], by omega, fun _ => ⟨rfl, rfl⟩, h4⟩
end Seg
end Go.Proofs.Ytedandbkdjmfhaa
