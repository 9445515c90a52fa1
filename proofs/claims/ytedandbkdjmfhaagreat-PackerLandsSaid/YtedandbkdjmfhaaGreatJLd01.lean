/-
  SEVERAL TEXTS IN ONE FILE: PkResP.
-/
import Derived.Test.YtedandbkdjmfhaaGreatJ22
set_option linter.unusedSimpArgs false
set_option linter.unusedVariables false
/-
  WHAT PackerResumes ASKS IN PLAIN.
-/
namespace Go.Proofs.YtedandbkdjmfhaaGreat
open Go.RowKit Mem Box
namespace Pk
open Seg (Hdr Rc Rv cellsOf cellsOf_len RowR hdV recV fits nums hnums nn goods frame headX recX frames check recB headB)
theorem row_ownR {base : Nat} {w : World} {A : Option Addr} {n c : Nat} {xs : List Rv} (h : OwnS.Owns cellsOf 7 57 base w (.slice A n c) n xs) (hn : n ≤ 1954687338211) (hd : ∀ x ∈ xs, Row cb w x.D x.r.data.length x.c x.r.data) : RowR w A n c xs := rowR_of (h.row fitR (by omega)) hn hd
theorem seg_cases (h : Hdr) (l : List Rc) : (nn (hnums h) ∧ (∀ r ∈ l, check r = 0) ∧ Seg.segB h l = (frame (headX h) ++ frames l, 0)) ∨ Seg.segB h l = ([], 1) ∨ Seg.segB h l = ([], 2) := by
  by_cases hn : nn (hnums h)
  · rcases hr : Seg.recsB l with ⟨b, e⟩
    rcases Seg.recsB_bad l b e hr with ⟨rfl, hc⟩ | ⟨he, rfl, i, r, -, hc, -⟩
    · refine .inl ⟨hn, hc, ?_⟩
      unfold Seg.segB
      rw [if_pos hn, Seg.recsB_ok l hc]
      simp
    · right
      have hs : Seg.segB h l = ([], e) := by unfold Seg.segB; rw [if_pos hn, hr]; simp [he]
      rcases Seg.check_le r with h1 | h1 | h1
      · omega
      · left; rw [hs, ← hc, h1]
      · right; rw [hs, ← hc, h1]
  · right; left
    unfold Seg.segB
    rw [if_neg hn]
theorem frames_light {l : List Rc} (hg : goods l) (h : Seg.weigh l ≤ 3145728) : (frames l).length ≤ 15728640 := by
  have one : ∀ {r : Rc} {l : List Rc}, r ∈ l → r.data.length + 20 ≤ Seg.weigh l := by
    intro r l
    induction l with
    | nil => intro h; cases h
    | cons x l ih =>
      intro h
      rw [Seg.weigh_cons]
      rcases List.mem_cons.1 h with rfl | h
      · omega
      · have := ih h; omega
  have := Seg.frames_weigh l hg (fun r hr => by have := one hr; omega)
  omega
/-- What was scanned, of one's own. -/
def FndO (h : Hdr) (U : Int) (l : List Rc) (w : World) (en : Ending) (w' : World) : Prop :=
  ∃ zs LA LC AA AC, en = .returned (.agg #[.bool true, .int .i64 h.host, .int .i64 h.epoch, .int .i64 h.seq, .slice LA l.length LC, .slice AA l.length AC, .int .i64 U]) ∧
    OwnRs w.heap.size w' LA l.length LC zs ∧ (∀ z ∈ zs, OwnB1 w.heap.size w' z.D z.c z.r.data) ∧ zs.map Rv.r = l ∧ Below w.heap.size w w'
theorem scan_own {h : Hdr} {b : List (BitVec 8)} {l : List Rc} {U : Int} (hU : (((frame (headX h)).length + (frames l).length : Nat) : Int) = U) {A : Option Addr} {n c : Nat} {w : World} (hr : Row cb w A n c (frame (headX h) ++ b)) (hn : n ≤ 1000000) (hf : fits (hnums h)) (hnn : nn (hnums h)) (hs : Seg.Scans b (Seg.sized l)) :
    Calls Tryz.prog 11 #[.slice A n c] w (FndO h U l w) := by
  subst hU
  have hh := Seg.headAt_seg h hf hnn b
  have hcall : Calls Tryz.prog 11 #[.slice A n c] w (Seg.Scanned (frame (headX h) ++ b) w) := by
    have hh2 := hh
    unfold Seg.headAt at hh2
    split at hh2
    · rename_i x k ht
      split at hh2
      · rename_i h' hth
        exact Seg.scan_some hr hn ht hth
      · cases hh2
    · cases hh2
  refine hcall.mono ?_
  intro e w' hS
  unfold Seg.Scanned at hS
  rw [hh] at hS
  obtain ⟨⟨acc, L, At, xs, h1, h2, rfl, h4⟩, h5⟩ := hS
  rw [List.drop_left] at h1
  obtain rfl : acc = Seg.sized l := h1.det hs
  obtain ⟨LA, LC, rfl⟩ := h4.rows.slice
  obtain ⟨AA, AC, rfl⟩ := h4.ats.slice
  have h6 := h4.rows
  have h7 := h4.recs
  unfold Seg.foundV
  rw [Seg.sized_len] at h6 ⊢
  rw [Seg.sized_fst] at h7
  rw [Seg.sized_total]
  exact ⟨xs, LA, LC, AA, AC, rfl, h6, h4.data, h7, h5⟩
theorem scans_all {l : List Rc} (h1 : ∀ r ∈ l, check r = 0) (h2 : goods l) : Seg.Scans (frames l) (Seg.sized l) := by
  have := Seg.scans_frames [] (by simpa using Seg.one_zeros 0) l (fun r hr => ⟨h1 r hr, h2 r hr⟩)
  rwa [List.append_nil] at this
theorem ap_earlier {α β : Type} {ca : α → List Value} {cc : β → List Value} {ka kc : Nat} {e e' : TypeId} {base n m : Nat} {w w' : World} {s s2 : Value} {l : List α} {l' : List β} (hs : OwnS.Owns ca ka e base w s n l) (ho : OwnS.Owns cc kc e' w.heap.size w' s2 m l') : Ap s s2 := by
  unfold Ap
  rcases e : s.ownBlock with _ | q
  · exact .inl rfl
  · refine .inr fun h => ?_
    have h2 := (OwnS.Owns.lt hs q e).2
    have h3 := (OwnS.Owns.lt ho q h.symm).1
    omega
end Pk
end Go.Proofs.YtedandbkdjmfhaaGreat
