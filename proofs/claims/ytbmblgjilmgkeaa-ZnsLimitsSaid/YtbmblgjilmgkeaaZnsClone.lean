/-
  A WALK: slices.Clone OVER ZONES.
-/
import Derived.Test.YtbmblgjilmgkeaaZnsMem
namespace Go.Proofs.Ytbmblgjilmgkeaa
open Go.RowKit Mem Zon
namespace Zns

theorem flat_len (xs : List Zv) : (xs.flatMap cellsZ).length = xs.length * 3 := by
  induction xs with
  | nil => rfl
  | cons x xs ih => rw [List.flatMap_cons, List.length_append, ih, List.length_cons]; show 3 + _ = _; omega
theorem flat_get : ∀ (xs : List Zv) (i r : Nat), r < 3 → (xs.flatMap cellsZ)[i * 3 + r]? = (xs[i]?).bind fun x => (cellsZ x)[r]?
  | [], i, r, _ => by simp
  | x :: xs, 0, r, hr => by
    rw [List.flatMap_cons, List.getElem?_append_left (by show _ < 3; omega)]
    simp
  | x :: xs, i + 1, r, hr => by
    rw [List.flatMap_cons, List.getElem?_append_right (by show 3 ≤ _; omega)]
    have : (i + 1) * 3 + r - (cellsZ x).length = i * 3 + r := by show _ - 3 = _; omega
    rw [this, flat_get xs i r hr]
    simp
theorem info_zone : (Try.prog.info? 42).map (fun i => (i.zero, i.size, i.bytes)) = some (some (.agg #[.int .i64 0, .int .i64 0, .slice none 0 0]), 3, 40) := by kernel_rfl
theorem run_eql_nilZ (w : World) (A : Option Addr) (n c : Nat) : (binOp .eql 23 (.slice A n c) (.slice none 0 0)).run Try.prog w = .ok (.bool A.isNone) w :=
  Go.run_eql_slice_nil w _ _ A n c Try.underlying23

/-- Zones that a call gave, in a block of its own. -/
def GaveL (w : World) (n : Nat) (xs : List Zv) (en : Ending) (w' : World) : Prop :=
  ∃ A c, en = .returned (.slice A n c) ∧ RowS cellsZ 3 w' A n c xs ∧ Below w.heap.size w w' ∧ (0 < n → ∃ q, A = some ⟨q, 0, none⟩ ∧ w.heap.size ≤ q ∧ OwnZ w' q 0 xs)
theorem gaveL_of {w w' : World} {n : Nat} {xs : List Zv} {A : Option Addr} {c : Nat} (hl : xs.length = n) (hn : n ≤ 1000) (h : w'.ownsRow w.heap.size 42 3 (.slice A n c) n (xs.flatMap cellsZ)) (hb : Below w.heap.size w w') : GaveL w n xs (.returned (.slice A n c)) w' := by
  rcases h.2 with ⟨e1, e2⟩ | ⟨q, cap, cur, e1, hq, hh, hnc, hcm, hs, ht⟩
  · injection e1 with e1 e3 e4
    subst e1 e4 e2
    obtain rfl : xs = [] := List.eq_nil_of_length_eq_zero hl
    exact ⟨none, 0, rfl, RowS.nil _ _ _, hb, fun h => by omega⟩
  · injection e1 with e1 e3 e4
    subst e1 e4
    have hcs : ∀ i x, xs[i]? = some x → ∀ j u, (cellsZ x)[j]? = some u → cur[0 + i * 3 + j]? = some u := by
      intro i x hx j u hu
      have hj : j < 3 := by have := (List.getElem?_eq_some_iff.1 hu).1; simpa [cellsZ] using this
      have hil : i < xs.length := (List.getElem?_eq_some_iff.1 hx).1
      have h1 := flat_get xs i j hj
      rw [hx] at h1
      simp only [Option.bind_some] at h1
      rw [hu, ← ht, List.getElem?_take] at h1
      split at h1
      · rw [Nat.zero_add]; simpa using h1
      · cases h1
    have ho : OwnZ w' q 0 xs := ⟨cur, hh, hcs⟩
    refine ⟨_, c, rfl, ⟨hl, hnc, by omega, fun _ => ⟨q, 0, rfl, ho.lt, fun i x hx j u hu => ho.cell hx hu⟩⟩, hb, fun _ => ⟨q, rfl, hq, ho⟩⟩

set_option maxRecDepth 100000 in
set_option maxHeartbeats 1600000 in
theorem cloneZ_any {A : Option Addr} {n c : Nat} {xs : List Zv} {w : World} (h : RowS cellsZ 3 w A n c xs) (hn : n ≤ 1000) :
    Calls Try.prog 37 #[.slice A n c] w (GaveL w n xs) := by
  have HR := Lib.hid h
  have hl := h.len
  have hq := fun w => run_eql_nilZ w A n c
  have hat := h.at_
  clear h
  rcases A with _ | a
  · have hn0 : n = 0 := by
      rcases Nat.eq_zero_or_pos n with h0 | h0
      · exact h0
      · obtain ⟨b, o, e, -⟩ := hat h0
        cases e
    subst hn0
    obtain rfl : xs = [] := List.eq_nil_of_length_eq_zero hl
    have hd : (none : Option Addr).isNone = true := rfl
    rw [hd] at hq
    clear hat
    go_enter Try.func37, Try.ntmps37
    go_wp2
    go_ret
    exact ⟨none, 0, rfl, RowS.nil _ _ _, Below.refl _ _, fun h => by omega⟩
  · have hd : (some a).isNone = false := rfl
    rw [hd] at hq
    have HC : Hid (∀ W : World, Below w.heap.size w W → ∀ j u, (xs.flatMap cellsZ)[j]? = some u → W.cell? (a.add j) = some u) := by
      show ∀ _, _
      intro W hW j u hu
      have hjl : j < xs.length * 3 := by have := (List.getElem?_eq_some_iff.1 hu).1; rwa [flat_len] at this
      have hj : j = (j / 3) * 3 + j % 3 := by omega
      rw [hj, flat_get xs (j / 3) (j % 3) (by omega)] at hu
      obtain ⟨x, hx, hu⟩ := Option.bind_eq_some_iff.1 hu
      obtain ⟨b, o, e, hb, hc⟩ := HR.out.elem hx
      injection e with e
      subst e
      rw [add_none]
      have := hc W (hW.block b hb) (j % 3) u hu
      rwa [Nat.add_assoc, ← hj] at this
    have HM : Hid ((w.alloc (.cells #[] 42)).ownsRow w.heap.size 42 3 (.slice (some ⟨w.heap.size, 0, none⟩) 0 0) 0 []) :=
      ⟨rfl, .inr ⟨w.heap.size, 0, #[], rfl, Nat.le_refl _, heap_alloc_new w _, Nat.le_refl _, by decide, rfl, rfl⟩⟩
    have H1 : Hid (∀ u ∈ xs.flatMap cellsZ, u.oneCell' = true) := by
      show ∀ _, _
      intro u hu
      obtain ⟨x, -, hu⟩ := List.mem_flatMap.1 hu
      simp only [cellsZ, List.mem_cons, List.not_mem_nil, or_false] at hu
      rcases hu with rfl | rfl | rfl <;> rfl
    have HFL : Hid ((xs.flatMap cellsZ).length = n * 3) := by show _ = _; rw [flat_len, hl]
    have HL := Lib.hid hl
    clear hat hl
    go_enter Try.func37, Try.ntmps37
    go_wp2_with (at_builtin
                 refine wpList_append_wide Try.underlying23 info_zone rfl (by omega) rfl (.tmp 5) (.tmp 6) rfl rfl w.heap.size _ 0 [] rfl HM.out a n c (xs.flatMap cellsZ) rfl HFL.out (HC.out _ ((Below.refl _ w).alloc (Nat.le_refl _) _)) H1.out (by omega) (by omega) (by simp) ?_
                 intro A' c' w' hown' hb' _
                 have O := Lib.hid (show w'.ownsRow w.heap.size 42 3 (.slice A' n c') n (xs.flatMap cellsZ) by simpa using hown')
                 have B := Lib.hid hb'
                 clear hown' hb')
    go_ret
    exact gaveL_of HL.out hn O.out (((Below.refl _ w).alloc (Nat.le_refl _) _).trans B.out)
end Zns
end Go.Proofs.Ytbmblgjilmgkeaa
