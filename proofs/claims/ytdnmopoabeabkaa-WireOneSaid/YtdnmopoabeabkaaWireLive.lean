/-
  wire: WHAT THE STATEMENTS ASK FIRST: the chapter's examples (live).
-/
import Derived.Test.YtdnmopoabeabkaaWireFix
namespace Go.Proofs.Ytdnmopoabeabkaa
open Go.RowKit Mem
namespace Wire

theorem row_new {α : Type} (f : α → Value) (w : World) (l : List α) (t : TypeId) (hn : l.length ≤ 140737488351232) {vs : Array Value} (hv : vs = (l.map f).toArray) : Row f (w.alloc (.cells vs t)) (some ⟨w.heap.size, 0, none⟩) l.length l.length l := by
  subst hv
  refine ⟨rfl, Nat.le_refl _, hn, fun _ => ⟨_, _, rfl, by simp, fun i y hi => ?_⟩⟩
  rw [cell_of_row _ w.heap.size (0 + i) _ _ (0, 0) (heap_alloc_new w _)]
  simp [hi]

theorem enc300 : enc 300 = [172#8, 2#8] := by rw [enc_ge (by omega), enc_lt (by omega)]
theorem str300 : str (enc 300) = ⟨#[172, 2]⟩ := by rw [enc300]; rfl
theorem take128 : take1 [128#8, 0#8] = (0, 0, 21) := by decide
theorem take300 : take1 [172#8, 2#8, 9#8] = (300, 2, 0) := by decide

set_option maxRecDepth 100000 in
set_option maxHeartbeats 800000 in
theorem live_any (w : World) :
    Calls Try.prog 8 #[] w fun e w' => e = .returned (.bool true) ∧ Below w.heap.size w w' := by
  go_enter Try.func8, Try.ntmps8
  go_wp2_with fail
  refine (take_at (row_new cb w [128#8, 0#8] _ (by decide) rfl) take128).mono ?_
  rintro e w1 ⟨rfl, h1⟩
  have H1 := Lib.hid (((Below.refl _ w).alloc (Nat.le_refl _) _).trans (h1.mono (by simp)))
  clear h1
  go_wp2_with fail
  refine (take_at (row_new cb w1 [172#8, 2#8, 9#8] _ (by decide) rfl) take300).mono ?_
  rintro e w2 ⟨rfl, h2⟩
  have H2 := Lib.hid (H1.out.trans ((((Below.refl _ w1).alloc (Nat.le_refl _) _).trans (h2.mono (by simp))).mono H1.out.size))
  clear h2
  go_wp2_with fail
  refine (putN_any 300 (by decide) w2).mono ?_
  rintro e w3 ⟨A, k, c, rfl, h3, h4⟩
  obtain ⟨A', c', e3, hrow⟩ := h3.row (by have := h3.len; rw [enc300] at this; simp at this; omega)
  obtain ⟨rfl, -, rfl⟩ : A = A' ∧ k = k ∧ c = c' := by simpa using e3
  have hs := run_str hrow
  rw [str300] at hs
  have H3 := Lib.hid (H2.out.trans (h4.mono H2.out.size))
  clear h3 h4 e3 hrow
  go_wp2
  go_ret
  exact ⟨rfl, H3.out⟩
end Wire
end Go.Proofs.Ytdnmopoabeabkaa
