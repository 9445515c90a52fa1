/-
  wire.Msg OF ANY MESSAGE.
-/
import Derived.Test.YtamahknnppjegaaNetPlain
namespace Go.Proofs.Ytamahknnppjegaa
open Go.RowKit Mem Box
namespace Net
open Wire (B8 asInts asInts_toNat GaveE MsgBad msg_ok msg_bad_head msg_bad_args msg_bad_many msg_bad_long)

theorem ok_iff (p : Mp) : okM p = true ↔ (0 ≤ p.k ∧ 0 ≤ p.f ∧ 0 ≤ p.t ∧ 0 ≤ p.i) ∧ (∀ z ∈ p.a, 0 ≤ z) ∧ p.a.length ≤ 64 ∧ p.x.length ≤ 65536 := by
  unfold okM
  simp only [Bool.and_eq_true, decide_eq_true_eq, List.all_eq_true]
  constructor
  · rintro ⟨⟨⟨⟨⟨⟨h1, h2⟩, h3⟩, h4⟩, h5⟩, h6⟩, h7⟩
    exact ⟨⟨h1, h2, h3, h4⟩, h5, h6, h7⟩
  · rintro ⟨⟨h1, h2, h3, h4⟩, h5, h6, h7⟩
    exact ⟨⟨⟨⟨⟨⟨h1, h2⟩, h3⟩, h4⟩, h5⟩, h6⟩, h7⟩

theorem wmsg_ok {x : Mx} {w : World} (h : MAt w x) (hk : okM x.p = true) : Calls Try.prog 46 #[mxv x] w (GaveE cb 5 w.heap.size w (bytesM x.p) 0) := by
  obtain ⟨⟨h1, h2, h3, h4⟩, h5, h6, h7⟩ := (ok_iff _).1 hk
  obtain ⟨f1, f2, f3⟩ := h.fits
  have e1 := h.ints.len
  have e2 := h.text.len
  obtain ⟨r1, r2, -⟩ := h
  obtain ⟨k, f, t, i, A, n, c, a, B, m, d, v⟩ := x
  simp only [Mx.p, List.mem_cons, List.not_mem_nil, or_false, forall_eq_or_imp, forall_eq] at *
  unfold mxv
  dsimp only
  obtain ⟨k, rfl⟩ := Int.eq_ofNat_of_zero_le h1
  obtain ⟨f, rfl⟩ := Int.eq_ofNat_of_zero_le h2
  obtain ⟨t, rfl⟩ := Int.eq_ofNat_of_zero_le h3
  obtain ⟨i, rfl⟩ := Int.eq_ofNat_of_zero_le h4
  have ea := asInts_toNat h5
  rw [← ea] at r1
  have hb : ∀ z ∈ a.map Int.toNat, z < 9223372036854775808 := fun z hz => by
    obtain ⟨y, hy, rfl⟩ := List.mem_map.1 hz
    have := f2 y hy
    have := h5 y hy
    omega
  subst e1
  have := msg_ok (k := k) (f := f) (t := t) (i := i) (w := w) (by omega) (by omega) (by omega) (by omega) hb r1 r2 h6 (by omega)
  unfold bytesM
  exact this
theorem wmsg_bad {x : Mx} {w : World} (h : MAt w x) (hk : okM x.p = false) : Calls Try.prog 46 #[mxv x] w (MsgBad w) := by
  have hk' : ¬ ((0 ≤ x.k ∧ 0 ≤ x.f ∧ 0 ≤ x.t ∧ 0 ≤ x.i) ∧ (∀ z ∈ x.a, 0 ≤ z) ∧ x.a.length ≤ 64 ∧ x.x.length ≤ 65536) := fun h => by
    rw [(ok_iff x.p).2 h] at hk
    cases hk
  obtain ⟨f1, f2, f3⟩ := h.fits
  have e1 := h.ints.len
  have e2 := h.text.len
  obtain ⟨r1, r2, -⟩ := h
  clear hk
  obtain ⟨k, f, t, i, A, n, c, a, B, m, d, v⟩ := x
  simp only [Mx.p, List.mem_cons, List.not_mem_nil, or_false, forall_eq_or_imp, forall_eq] at *
  unfold mxv
  dsimp only
  by_cases c1 : 0 ≤ k ∧ 0 ≤ f ∧ 0 ≤ t ∧ 0 ≤ i
  · obtain ⟨h1, h2, h3, h4⟩ := c1
    obtain ⟨k, rfl⟩ := Int.eq_ofNat_of_zero_le h1
    obtain ⟨f, rfl⟩ := Int.eq_ofNat_of_zero_le h2
    obtain ⟨t, rfl⟩ := Int.eq_ofNat_of_zero_le h3
    obtain ⟨i, rfl⟩ := Int.eq_ofNat_of_zero_le h4
    by_cases c2 : ∀ z ∈ a, 0 ≤ z
    · have ea := asInts_toNat c2
      rw [← ea] at r1
      have hb : ∀ z ∈ a.map Int.toNat, z < 9223372036854775808 := fun z hz => by
        obtain ⟨y, hy, rfl⟩ := List.mem_map.1 hz
        have := f2 y hy
        have := c2 y hy
        omega
      by_cases c3 : n ≤ 64
      · have c4 : 65536 < m := by
          by_cases c4 : m ≤ 65536
          · exact absurd ⟨⟨h1, h2, h3, h4⟩, c2, by omega, by omega⟩ hk'
          · omega
        exact msg_bad_long (k := k) (f := f) (t := t) (i := i) (w := w) (by omega) (by omega) (by omega) (by omega) r1 r2 hb c3 c4
      · exact msg_bad_many (k := k) (f := f) (t := t) (i := i) (w := w) (by omega) (by omega) (by omega) (by omega) r1 hb (by omega) (by omega)
    · exact msg_bad_args (k := k) (f := f) (t := t) (i := i) (w := w) (by omega) (by omega) (by omega) (by omega) r1 f2 c2 (by omega)
  · refine msg_bad_head (fun z hz => ?_) (fun hz => c1 ⟨hz _ (by simp), hz _ (by simp), hz _ (by simp), hz _ (by simp)⟩)
    simp only [List.mem_cons, List.not_mem_nil, or_false] at hz
    rcases hz with rfl | rfl | rfl | rfl | rfl <;> omega
end Net
end Go.Proofs.Ytamahknnppjegaa
