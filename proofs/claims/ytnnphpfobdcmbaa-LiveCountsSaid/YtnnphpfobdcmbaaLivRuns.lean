/-
  PLAIN: sorted runs of twenty, joined two by two. (No program is named here.)
-/
import Derived.Test.YtnnphpfobdcmbaaLivSortP
namespace Go.Proofs.Ytnnphpfobdcmbaa
open Go.Sort
namespace Stab
variable {α : Type} {key : α → Int} {r : α → α → Prop} [Inhabited α]

/-- The runs of twenty up to a. -/
def Ins (key : α → Int) (r : α → α → Prop) (d : Array α) (a : Nat) : Prop := a % 20 = 0 ∧ ∀ s, s % 20 = 0 → s + 20 ≤ a → Srt key r d s (s + 20)
/-- Every run of B, the last one shorter. -/
def Runs (key : α → Int) (r : α → α → Prop) (B : Nat) (d : Array α) (n : Nat) : Prop := ∀ s, s % B = 0 → s < n → Srt key r d s (min (s + B) n)
/-- Runs of 2 B up to a, and of B behind. -/
def Two (key : α → Int) (r : α → α → Prop) (B : Nat) (d : Array α) (a n : Nat) : Prop :=
  a % (2 * B) = 0 ∧ (∀ s, s % (2 * B) = 0 → s + 2 * B ≤ a → Srt key r d s (s + 2 * B)) ∧ ∀ s, s % B = 0 → a ≤ s → s < n → Srt key r d s (min (s + B) n)
theorem Ins.start (d : Array α) : Ins key r d 0 := ⟨rfl, fun s _ h => by omega⟩
theorem Ins.step {d d' : Array α} {a : Nat} (h : Ins key r d a) (hs : Srt key r d' a (a + 20)) (hm : Mv d d' a (a + 20)) : Ins key r d' (a + 20) := by
  obtain ⟨h1, h2⟩ := h
  refine ⟨by omega, fun s s1 s2 => ?_⟩
  by_cases e : s = a
  · rw [e]; exact hs
  · exact srt_same (h2 s s1 (by omega)) fun i i1 i2 => hm.out i (by omega)
theorem Ins.runs {d d' : Array α} {a n : Nat} (h : Ins key r d a) (han : a ≤ n) (hn : n < a + 20) (hs : Srt key r d' a n) (hm : Mv d d' a n) : Runs key r 20 d' n := by
  obtain ⟨h1, h2⟩ := h
  intro s s1 s2
  by_cases e : s + 20 ≤ a
  · have : min (s + 20) n = s + 20 := by omega
    rw [this]
    exact srt_same (h2 s s1 e) fun i i1 i2 => hm.out i (by omega)
  · have h3 : s = a := by omega
    have h4 : min (s + 20) n = n := by omega
    rw [h4, h3]; exact hs
variable {B n a : Nat} {d d' : Array α}
theorem Runs.two (h : Runs key r B d n) : Two key r B d 0 n := ⟨Nat.zero_mod _, fun s _ h => by
  rcases Nat.eq_zero_or_pos B with hb | hb
  · subst hb; exact srt_one d (by omega)
  · omega, fun s s1 _ s2 => h s s1 s2⟩
theorem Runs.done (h : Runs key r B d n) (hn : n ≤ B) : Srt key r d 0 n := by
  rcases Nat.eq_zero_or_pos n with h0 | h0
  · subst h0; exact srt_one d (by omega)
  · have := h 0 (Nat.zero_mod _) h0
    rw [Nat.zero_add, Nat.min_eq_right hn] at this
    exact this
theorem Two.pre (h : Two key r B d a n) (hB : B = 20 ∨ B = 40) (hn : a + 2 * B ≤ n) : Srt key r d a (a + B) ∧ Srt key r d (a + B) (a + 2 * B) := by
  obtain ⟨h1, -, h3⟩ := h
  rcases hB with rfl | rfl
  · have p1 := h3 a (by omega) (by omega) (by omega)
    have p2 := h3 (a + 20) (by omega) (by omega) (by omega)
    rw [Nat.min_eq_left (by omega)] at p1 p2
    exact ⟨p1, p2⟩
  · have p1 := h3 a (by omega) (by omega) (by omega)
    have p2 := h3 (a + 40) (by omega) (by omega) (by omega)
    rw [Nat.min_eq_left (by omega)] at p1 p2
    exact ⟨p1, p2⟩
theorem Two.step (h : Two key r B d a n) (hB : B = 20 ∨ B = 40) (hs : Srt key r d' a (a + 2 * B)) (hm : Mv d d' a (a + 2 * B)) : Two key r B d' (a + 2 * B) n := by
  obtain ⟨h1, h2, h3⟩ := h
  refine ⟨by rcases hB with rfl | rfl <;> omega, fun s s1 s2 => ?_, fun s s1 s2 s3 => ?_⟩
  · by_cases e : s = a
    · rw [e]; exact hs
    · exact srt_same (h2 s s1 (by rcases hB with rfl | rfl <;> omega)) fun i i1 i2 => hm.out i (by rcases hB with rfl | rfl <;> omega)
  · exact srt_same (h3 s s1 (by omega) s3) fun i i1 i2 => hm.out i (by omega)
theorem Two.last_pre (h : Two key r B d a n) (hB : B = 20 ∨ B = 40) (hn : n < a + 2 * B) (hm : a + B < n) : Srt key r d a (a + B) ∧ Srt key r d (a + B) n := by
  obtain ⟨h1, -, h3⟩ := h
  rcases hB with rfl | rfl
  · have p1 := h3 a (by omega) (by omega) (by omega)
    have p2 := h3 (a + 20) (by omega) (by omega) (by omega)
    rw [Nat.min_eq_left (by omega)] at p1
    rw [Nat.min_eq_right (by omega)] at p2
    exact ⟨p1, p2⟩
  · have p1 := h3 a (by omega) (by omega) (by omega)
    have p2 := h3 (a + 40) (by omega) (by omega) (by omega)
    rw [Nat.min_eq_left (by omega)] at p1
    rw [Nat.min_eq_right (by omega)] at p2
    exact ⟨p1, p2⟩
theorem Two.last (h : Two key r B d a n) (hB : B = 20 ∨ B = 40) (han : a ≤ n) (hn : n < a + 2 * B) (hs : Srt key r d' a n) (hm : Mv d d' a n) : Runs key r (B * 2) d' n := by
  obtain ⟨h1, h2, -⟩ := h
  intro s s1 s2
  by_cases e : s + 2 * B ≤ a
  · have : min (s + B * 2) n = s + 2 * B := by omega
    rw [this]
    exact srt_same (h2 s (by rw [Nat.mul_comm 2 B]; exact s1) e) fun i i1 i2 => hm.out i (by omega)
  · have h3 : s = a := by rcases hB with rfl | rfl <;> omega
    have h4 : min (s + B * 2) n = n := by omega
    rw [h4, h3]; exact hs
theorem Two.last_none (h : Two key r B d a n) (hB : B = 20 ∨ B = 40) (hm : ¬ a + B < n) : Srt key r d a n := by
  obtain ⟨h1, -, h3⟩ := h
  by_cases e : a < n
  · have p := h3 a (by rcases hB with rfl | rfl <;> omega) (Nat.le_refl _) e
    rw [Nat.min_eq_right (by omega)] at p
    exact p
  · exact srt_one d (by omega)
end Stab
end Go.Proofs.Ytnnphpfobdcmbaa
