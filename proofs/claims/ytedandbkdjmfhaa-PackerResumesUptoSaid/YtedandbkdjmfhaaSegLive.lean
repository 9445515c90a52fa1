/-
  WHAT THE STATEMENTS OF seg ASK FIRST: the chapter's example (live), and how great the records are (Big).
-/
import Derived.Test.YtedandbkdjmfhaaSegRef
namespace Go.Proofs.Ytedandbkdjmfhaa
open Go.RowKit Mem
namespace Seg
open Wire

/-! ### A header's frame at the beginning -/
theorem headAt_seg (h : Hdr) (hf : fits (hnums h)) (hn : nn (hnums h)) (rest : List B8) : headAt (frame (headX h) ++ rest) = some (h, (frame (headX h)).length) := by
  unfold headAt
  rw [tk_frame _ rest (by have := headX_len h hf hn; omega)]
  simp only [takeHead_headX h hf hn]
theorem headAt_cut (h : Hdr) (hf : fits (hnums h)) (hn : nn (hnums h)) (j : Nat) (hj : j < (frame (headX h)).length) : headAt ((frame (headX h)).take j) = none := by
  unfold headAt
  rw [tk_cut _ j (by have := headX_len h hf hn; omega) hj]
theorem headAt_one {b : List B8} {h : Hdr} {u : Nat} (hh : headAt b = some (h, u)) : frame (headX h) = b.take u ∧ u ≤ b.length ∧ nn (hnums h) ∧ fits (hnums h) ∧ 5 ≤ u := by
  unfold headAt at hh
  split at hh
  · rename_i x k ht
    split at hh
    · rename_i h' hth
      simp only [Option.some.injEq, Prod.mk.injEq] at hh
      obtain ⟨rfl, rfl⟩ := hh
      obtain ⟨t1, t2, t3, t4⟩ := tk_one ht
      obtain ⟨a1, a2, a3⟩ := takeHead_one hth
      exact ⟨by rw [a1]; exact t1, t2, a2, a3, t4⟩
    · cases hh
  · cases hh
theorem sized_total (l : List Rc) : total (sized l) = (frames l).length := by
  induction l with
  | nil => rfl
  | cons r l ih =>
    rw [frames_cons, List.length_append, ← ih]
    simp [total, sized]
theorem sized_fst (l : List Rc) : (sized l).map (·.1) = l := by simp [sized, Function.comp_def]
theorem sized_len (l : List Rc) : (sized l).length = l.length := by simp [sized]

theorem scans_count {b : List B8} {l : List (Rc × Nat)} (h : Scans b l) : 5 * l.length ≤ total l := by
  induction h with
  | stop _ => simp [total]
  | step h _ ih =>
    obtain ⟨o1, o2, o3, -⟩ := one_one h
    simp [total] at *
    omega
/-- What Scan tells of bytes that begin with a header. -/
def Fnd (h : Hdr) (u0 : Nat) (b : List B8) (w : World) (en : Ending) (w' : World) : Prop :=
  ∃ acc xs LA LC AA AC, Scans (b.drop u0) acc ∧ u0 + total acc ≤ b.length ∧ en = .returned (.agg #[.bool true, .int .i64 h.host, .int .i64 h.epoch, .int .i64 h.seq, .slice LA acc.length LC, .slice AA acc.length AC, .int .i64 ((u0 + total acc : Nat) : Int)]) ∧
    RowR w' LA acc.length LC xs ∧ Row ci w' AA acc.length AC (starts u0 acc) ∧ xs.map Rv.r = acc.map (·.1) ∧ Below w.heap.size w w'
theorem scan_found {A : Option Addr} {n c : Nat} {b : List B8} {w : World} {h : Hdr} {u0 : Nat} (hr : Row cb w A n c b) (hn : n ≤ 1000000) (hh : headAt b = some (h, u0)) :
    Calls Try.prog 13 #[.slice A n c] w (Fnd h u0 b w) := by
  have hcall : Calls Try.prog 13 #[.slice A n c] w (Scanned b w) := by
    have hh2 := hh
    unfold headAt at hh2
    split at hh2
    · rename_i x k ht
      split at hh2
      · rename_i h' hth
        exact scan_some hr hn ht hth
      · cases hh2
    · cases hh2
  refine hcall.mono ?_
  intro e w' hS
  unfold Scanned at hS
  rw [hh] at hS
  obtain ⟨⟨acc, L, At, xs, h1, h2, rfl, h4⟩, h5⟩ := hS
  obtain ⟨LA, LC, rfl⟩ := h4.rows.slice
  obtain ⟨AA, AC, rfl⟩ := h4.ats.slice
  have hl := hr.len
  have hc := scans_count h1
  have hb : acc.length ≤ 1000000 := by omega
  have hd : ∀ x ∈ xs, Row cb w' x.D x.r.data.length x.c x.r.data := by
    intro x hx
    have hx2 : x.r ∈ acc.map (·.1) := by rw [← h4.recs]; exact List.mem_map_of_mem hx
    have hg := (scans_one h1).2.1 _ hx2
    obtain ⟨A', c', e', hr⟩ := (h4.data x hx).row (by have := (check_ok hg.1).2; omega)
    injection e' with e1 e2 e3
    subst e1 e3
    exact hr
  obtain ⟨A1, c1, e1, hrow⟩ := h4.rows.row (by omega) hd
  injection e1 with e1 e2 e3
  subst e1 e3
  obtain ⟨A2, c2, e2, hrow2⟩ := h4.ats.row (by omega)
  injection e2 with e1 e2 e3
  subst e1 e3
  exact ⟨acc, xs, LA, LC, AA, AC, h1, h2, rfl, hrow, hrow2, h4.recs, h5⟩
theorem scan_nothing {A : Option Addr} {n c : Nat} {b : List B8} {w : World} (hr : Row cb w A n c b) (hn : n ≤ 1000000) (hh : headAt b = none) :
    Calls Try.prog 13 #[.slice A n c] w fun e w' => e = .returned (.agg #[.bool false, .int .i64 0, .int .i64 0, .int .i64 0, .slice none 0 0, .slice none 0 0, .int .i64 0]) ∧ Below w.heap.size w w' := by
  refine (scan_none hr hn hh).mono ?_
  intro e w' hS
  unfold Scanned at hS
  rw [hh] at hS
  exact hS
theorem gave_row {l : List B8} {w w' : World} {b : Nat} {X : Option Addr} {k c : Nat} (h : Owns cb 5 b w' (.slice X k c) k l) (hn : l.length ≤ 140737488351232) : Row cb w' X l.length c l ∧ k = l.length := by
  have hk := h.len
  obtain ⟨X', c', e, hr⟩ := h.row (by omega)
  injection e with e1 e2 e3
  subst e1 e3 hk
  exact ⟨hr, rfl⟩

/-! ### The example -/
def exH : Hdr := ⟨1, 2, 3⟩
def exR : Rc := ⟨2, 4, 5, 6, 0, 0, []⟩
theorem exH_nn : nn (hnums exH) := by intro z hz; simp [hnums, exH] at hz; omega
theorem exH_fits : fits (hnums exH) := by intro z hz; simp [hnums, exH] at hz; omega
theorem exR_fits : fits (nums exR) := by intro z hz; simp [nums, exR] at hz; omega
theorem exR_check : check exR = 0 := by decide
theorem exR_good : good exR := ⟨exR_check, exR_fits⟩
theorem enc_one {n : Nat} (h : n < 128) : (enc n).length = 1 := by rw [enc_lt h]; rfl
theorem exH_len : (frame (headX exH)).length = 9 := by
  have h : (headX exH).length = 4 := by simp [headX, hnums, exH, encs, enc_lt]
  rw [frame_len, h, enc_one (by omega)]
theorem exR_len : (frame (recX exR)).length = 12 := by
  have h : (recX exR).length = 7 := by simp [recX, nums, exR, encs, enc_lt, encV]
  rw [frame_len, h, enc_one (by omega)]
theorem exB_len : (frame (headX exH) ++ frames [exR]).length = 21 := by
  rw [List.length_append, exH_len]
  simp [frames, exR_len]
theorem ex_segB : segB exH [exR] = (frame (headX exH) ++ frames [exR], 0) := by
  unfold segB
  rw [if_pos exH_nn, recsB_ok _ (by intro r hr; simp at hr; subst hr; exact exR_check)]
  simp
theorem ex_headB : headB exH = (frame (headX exH), 0) := by unfold headB; rw [if_pos exH_nn]
theorem ex_headAt : headAt (frame (headX exH) ++ frames [exR]) = some (exH, 9) := by rw [headAt_seg _ exH_fits exH_nn, exH_len]
theorem ex_scan {acc : List (Rc × Nat)} (h : Scans ((frame (headX exH) ++ frames [exR]).drop 9) acc) : acc = sized [exR] := by
  have e : (frame (headX exH) ++ frames [exR]).drop 9 = frames [exR] ++ [] := by rw [← exH_len, List.drop_left, List.append_nil]
  rw [e] at h
  exact h.det (scans_frames [] (by simpa using one_zeros 0) [exR] (by intro r hr; simp at hr; subst hr; exact exR_good))
theorem ex_cut : headAt ((frame (headX exH)).take 8) = none := headAt_cut _ exH_fits exH_nn 8 (by rw [exH_len]; omega)

theorem exRow (w : World) {b : Nat} (hb : b = w.heap.size) : RowR (w.alloc (.cells #[.int .i64 2, .int .i64 4, .int .i64 5, .int .i64 6, .int .i64 0, .int .i64 0, .slice none 0 0] 34)) (some ⟨b, 0, none⟩) 1 1 [⟨exR, none, 0⟩] := by
  subst hb
  refine ⟨rfl, by omega, by omega, fun _ => ⟨_, _, rfl, by simp, fun i x hi j v hv => ?_⟩, fun x hx => ?_⟩
  · have : i = 0 := by
      rcases i with _ | i
      · rfl
      · simp at hi
    subst this
    simp only [List.getElem?_cons_zero, Option.some.injEq] at hi
    subst hi
    have := rec_cells_new w ⟨exR, none, 0⟩ 34 rfl j v hv
    rw [add_none] at this
    simpa [exR] using this
  · simp at hx
    subst hx
    exact Row.nil cb _

end Seg
end Go.Proofs.Ytedandbkdjmfhaa
