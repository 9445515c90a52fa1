/-
  WHAT THE LAWS OF DEDUP SHARE: a list that may be, as long as it is asked and answered.
-/
import Derived.Test.YtndcflchdecofaaDedLive
import Derived.Test.YtndcflchdecofaaOpen
import Derived.Test.YtndcflchdecofaaFrame
namespace Go.Proofs.Ytndcflchdecofaa
open Go.RowKit Mem Box
namespace Ded
open Net (Mp Mx MAt mxv MBox)

/-- A list that may be, in reach, and of K at most. -/
structure Good (w : World) (A : Option Addr) (n c : Nat) (l : List Sx) (K : Nat) : Prop where
  at_ : ListAt w A n c l
  ok : okL (l.map Sx.p) = true
  bi : BI (l.map Sx.p)
  few : n ≤ K
theorem Good.below {w w' : World} {A : Option Addr} {n c K : Nat} {l : List Sx} (h : Good w A n c l K) (hb : Below w.heap.size w w') : Good w' A n c l K := ⟨h.at_.below hb, h.ok, h.bi, h.few⟩
theorem Good.mono {w : World} {A : Option Addr} {n c K K' : Nat} {l : List Sx} (h : Good w A n c l K) (hk : K ≤ K') : Good w A n c l K' := ⟨h.at_, h.ok, h.bi, Nat.le_trans h.few hk⟩
theorem Good.nil (w : World) : Good w none 0 0 [] 0 := ⟨ListAt.nil w, ok_nil, bi_nil, Nat.le_refl _⟩
/-- What Done did: it kept an answer, or told an error. -/
def Did (w : World) (pl : List Sp) (f i : Int) (m : Mp) (K : Nat) (e : Ending) (w' : World) : Prop :=
  (∃ B n d l, e = .returned (.tuple #[.slice B n d, .int .i64 0]) ∧ Good w' B n d l (K + 1) ∧ l.map Sx.p = putP pl f ⟨i, m⟩ ∧ NewAt pl f ⟨i, m⟩ ∧ 0 ≤ i ∧ Below w.heap.size w w') ∨
  (∃ B d v, e = .returned (.tuple #[.slice B 0 d, .int .i64 v]) ∧ v ≠ 0 ∧ ((askP pl f i).2 ≠ 0 ∨ f < 0 ∨ i < 0) ∧ Below w.heap.size w w')
theorem did_any {A : Option Addr} {n c K : Nat} {l : List Sx} {f i : Int} {x : Mx} {w : World} (h : Good w A n c l K) (hm : MAt w x) (hK : K ≤ 90000) (hi : i ≤ 1152921504606846976) :
    Calls Try.prog 9 #[.slice A n c, .int .i64 f, .int .i64 i, mxv x] w (Did w (l.map Sx.p) f i x.p K) := by
  refine (done_any h.at_ hm (by have := h.few; omega) h.bi hi).mono ?_
  rintro e w' ⟨B, m, d, l', rfl, hl, hp, hb⟩
  rcases done_cases (l.map Sx.p) h.ok f i x.p with ⟨e1, hn, h0⟩ | ⟨e1, e2, h3⟩
  · rw [e1] at hp ⊢
    refine .inl ⟨B, m, d, l', rfl, ⟨hl, by rw [hp]; exact put_ok hn, by rw [hp]; exact h.bi.put hn hi, ?_⟩, hp, hn, h0, hb⟩
    have h1 := put_len ((okL_iff _).1 h.ok).2.1 f ⟨i, x.p⟩
    have hp' : l'.map Sx.p = putP (l.map Sx.p) f ⟨i, x.p⟩ := hp
    rw [← hp', List.length_map, List.length_map, h.at_.row.len, hl.row.len] at h1
    have := h.few
    omega
  · rw [e1] at hp
    have hm0 : m = 0 := by
      have := congrArg List.length hp
      rw [List.length_map, hl.row.len] at this
      simpa using this
    subst hm0
    exact .inr ⟨B, d, _, rfl, e2, h3, hb⟩
/-- What Ask tells, once it is known in plain. -/
theorem ask_st {A : Option Addr} {n c K : Nat} {l : List Sx} {f i : Int} {q : Mp} {v : Int} {w : World} (h : Good w A n c l K) (e : askP (l.map Sx.p) f i = (q, v)) :
    Calls Try.prog 8 #[.slice A n c, .int .i64 f, .int .i64 i] w fun en w' => ∃ y : Mx, en = .returned (.tuple #[.agg #[.int .i64 q.k, .int .i64 y.f, .int .i64 y.t, .int .i64 y.i, .slice y.A y.n y.c, .slice y.B y.m y.d], .int .i64 v]) ∧ Below w.heap.size w w' := by
  refine (ask_any (f := f) (i := i) h.at_).mono ?_
  rintro en w' ⟨y, rfl, hy, -, hb⟩
  rw [e] at hy ⊢
  have : y.k = q.k := congrArg Mp.k hy
  exact ⟨y, by unfold mxv; rw [this], hb⟩
theorem forget_st {A F : Option Addr} {n c m q K : Nat} {l : List Sx} {fs : List Int} {w : World} (h : Good w A n c l K) (hf : Row ci w F m q fs) (hm : m ≤ 100000) (hK : K ≤ 90000) :
    Calls Try.prog 11 #[.slice A n c, .slice F m q] w fun en w' => ∃ B k d l', en = .returned (.slice B k d) ∧ Good w' B k d l' K ∧ l'.map Sx.p = forgetP (l.map Sx.p) fs ∧ Below w.heap.size w w' := by
  refine (forget_any h.at_ hf (by have := h.few; omega) hm).mono ?_
  rintro en w' ⟨B, k, d, l', rfl, hl, hp, hb⟩
  have hle : (forgetP (l.map Sx.p) fs).length ≤ (l.map Sx.p).length ∧ ∀ s ∈ forgetP (l.map Sx.p) fs, s ∈ l.map Sx.p := by
    unfold forgetP
    rw [h.ok, cond_true]
    exact ⟨List.length_filter_le _ _, fun s hs => (List.mem_filter.1 hs).1⟩
  refine ⟨B, k, d, l', rfl, ⟨hl, by rw [hp]; exact forget_ok h.ok fs, by rw [hp]; exact fun s hs => h.bi s (hle.2 s hs), ?_⟩, hp, hb⟩
  have h1 := hle.1
  rw [← hp, List.length_map, List.length_map, h.at_.row.len, hl.row.len] at h1
  have := h.few
  omega
/-- One number in a block of its own. -/
theorem row_int (w : World) (v : Int) : Row ci (w.alloc (.cells #[.int .i64 v] 3)) (some ⟨w.heap.size, 0, none⟩) 1 1 [v] := by
  have hc := Cells.new w #[.int .i64 v] 3
  refine ⟨rfl, by omega, by omega, fun _ => ⟨_, _, rfl, hc.lt, fun i y hy => ?_⟩⟩
  have hi : i = 0 := by have := (List.getElem?_eq_some_iff.1 hy).1; simpa using this
  subst hi
  simp at hy
  subst hy
  rw [Nat.add_zero, hc.cell]
  rfl
end Ded
end Go.Proofs.Ytndcflchdecofaa
