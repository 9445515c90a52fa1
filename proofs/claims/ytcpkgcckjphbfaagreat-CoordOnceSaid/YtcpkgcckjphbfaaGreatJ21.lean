/-
  SEVERAL TEXTS IN ONE FILE: SpaFind, SpaCat, SpaParts, SpaNew.
-/
import Derived.Test.YtcpkgcckjphbfaaGreatJ07
import Derived.Test.YtcpkgcckjphbfaaGreatJ20
import Derived.Test.YtcpkgcckjphbfaaGreatJ06
import Derived.StillTailTactics
/-
  WALKS: where a block's span stands (find), Find.
-/
namespace Go.Proofs.YtcpkgcckjphbfaaGreat
open Go.RowKit Mem
namespace Spa

set_option maxRecDepth 100000 in
set_option maxHeartbeats 1600000 in
/-- find's own question: the spans' slice lies in block g, the block in block q. -/
theorem find1_any {A : Option Addr} {n c : Nat} {l : List Sp} {key : Int} {g q i : Nat} {x : Sp} {w : World} (h : RowL w A n c l) (hi : i < n) (hx : l[i]? = some x) (hg : OneBox w g 28 (.slice A n c)) (hq : OneBox w q 3 (.int .i64 key)) :
    Calls Tryz.prog 124 #[.int .i64 i, .pointer (some ⟨g, 0, none⟩), .pointer (some ⟨q, 0, none⟩)] w fun e w' => e = .returned (.bool (decide (key < x.to))) ∧ Below w.heap.size w w' := by
  obtain ⟨b, o, hA, -, c1, -, -⟩ := RowS.span_at h hx
  subst hA
  have m0 := OneBox.cells hg
  have m1 := OneBox.cells hq
  have hk0 : (0 : Int) ≤ (i : Int) := by omega
  have hkn : (i : Int) < (n : Int) := by omega
  clear h hx hg hq
  go_enter Tryz.func124, Tryz.ntmps124
  go_upto_region 1 with fail
  refine wp_region_held_drew (S := fun W => W.cell? ⟨b, o + i * 4 + 1, none⟩ = some (.int .i64 x.to) ∧ W.cell? ⟨g, 0, none⟩ = some (.slice (some ⟨b, o, none⟩) n c) ∧ W.cell? ⟨q, 0, none⟩ = some (.int .i64 key)) (by kernel_rfl) ⟨c1, m0, m1⟩ (fun hHeld => ?_)
  (first | (refine Reg.take 0 (v := ?_) rfl (by kernel_rfl) (by kernel_rfl) (by kernel_rfl) (fun _ _ _ h => h) (Or.inl ⟨by rfl, ?_⟩) (by assumption) ?_; rotate_left; (focus ((intro W hSW); (try dsimp only at hSW); (try go_split_ands); go_simp; (try (with_reducible rfl)); done))) | (refine Reg.take 0 (v := undef) rfl (by kernel_rfl) (by kernel_rfl) (by kernel_rfl) (fun _ _ _ h => h) (Or.inr ⟨by rfl, rfl⟩) (by assumption) ?_))
  (try simp only [Act.put, List.setIfInBounds_toArray, List.set_cons_zero, List.set_cons_succ])
  (first | (refine Reg.take 1 (v := ?_) rfl (by kernel_rfl) (by kernel_rfl) (by kernel_rfl) (fun _ _ _ h => h) (Or.inl ⟨by rfl, ?_⟩) (by assumption) ?_; rotate_left; (focus ((intro W hSW); (try dsimp only at hSW); (try go_split_ands); go_simp; (try (with_reducible rfl)); done))) | (refine Reg.take 1 (v := undef) rfl (by kernel_rfl) (by kernel_rfl) (by kernel_rfl) (fun _ _ _ h => h) (Or.inr ⟨by rfl, rfl⟩) (by assumption) ?_))
  (try simp only [Act.put, List.setIfInBounds_toArray, List.set_cons_zero, List.set_cons_succ])
  (first | (refine Reg.take 2 (v := ?_) rfl (by kernel_rfl) (by kernel_rfl) (by kernel_rfl) (fun _ _ _ h => h) (Or.inl ⟨by rfl, ?_⟩) (by assumption) ?_; rotate_left; (focus ((intro W hSW); (try dsimp only at hSW); (try go_split_ands); go_simp; (try (with_reducible rfl)); done))) | (refine Reg.take 2 (v := undef) rfl (by kernel_rfl) (by kernel_rfl) (by kernel_rfl) (fun _ _ _ h => h) (Or.inr ⟨by rfl, rfl⟩) (by assumption) ?_))
  (try simp only [Act.put, List.setIfInBounds_toArray, List.set_cons_zero, List.set_cons_succ])
  (first | (refine Reg.take 3 (v := ?_) rfl (by kernel_rfl) (by kernel_rfl) (by kernel_rfl) (fun _ _ _ h => h) (Or.inl ⟨by rfl, ?_⟩) (by assumption) ?_; rotate_left; (focus ((intro W hSW); (try dsimp only at hSW); (try go_split_ands); go_simp; (try (with_reducible rfl)); done))) | (refine Reg.take 3 (v := undef) rfl (by kernel_rfl) (by kernel_rfl) (by kernel_rfl) (fun _ _ _ h => h) (Or.inr ⟨by rfl, rfl⟩) (by assumption) ?_))
  (try simp only [Act.put, List.setIfInBounds_toArray, List.set_cons_zero, List.set_cons_succ])
  (first | (refine Reg.take 4 (v := ?_) rfl (by kernel_rfl) (by kernel_rfl) (by kernel_rfl) (fun _ _ _ h => h) (Or.inl ⟨by rfl, ?_⟩) (by assumption) ?_; rotate_left; (focus ((intro W hSW); (try dsimp only at hSW); (try go_split_ands); go_simp; (try (with_reducible rfl)); done))) | (refine Reg.take 4 (v := undef) rfl (by kernel_rfl) (by kernel_rfl) (by kernel_rfl) (fun _ _ _ h => h) (Or.inr ⟨by rfl, rfl⟩) (by assumption) ?_))
  (try simp only [Act.put, List.setIfInBounds_toArray, List.set_cons_zero, List.set_cons_succ])
  (first | (refine Reg.take 5 (v := ?_) rfl (by kernel_rfl) (by kernel_rfl) (by kernel_rfl) (fun _ _ _ h => h) (Or.inl ⟨by rfl, ?_⟩) (by assumption) ?_; rotate_left; (focus ((intro W hSW); (try dsimp only at hSW); (try go_split_ands); go_simp; (try (with_reducible rfl)); done))) | (refine Reg.take 5 (v := undef) rfl (by kernel_rfl) (by kernel_rfl) (by kernel_rfl) (fun _ _ _ h => h) (Or.inr ⟨by rfl, rfl⟩) (by assumption) ?_))
  (try simp only [Act.put, List.setIfInBounds_toArray, List.set_cons_zero, List.set_cons_succ])
  (first | (refine Reg.take 6 (v := ?_) rfl (by kernel_rfl) (by kernel_rfl) (by kernel_rfl) (fun _ _ _ h => h) (Or.inl ⟨by rfl, ?_⟩) (by assumption) ?_; rotate_left; (focus ((intro W hSW); (try dsimp only at hSW); (try go_split_ands); go_simp; (try (with_reducible rfl)); done))) | (refine Reg.take 6 (v := undef) rfl (by kernel_rfl) (by kernel_rfl) (by kernel_rfl) (fun _ _ _ h => h) (Or.inr ⟨by rfl, rfl⟩) (by assumption) ?_))
  (try simp only [Act.put, List.setIfInBounds_toArray, List.set_cons_zero, List.set_cons_succ])
  (first | (refine Reg.take 7 (v := ?_) rfl (by kernel_rfl) (by kernel_rfl) (by kernel_rfl) (fun _ _ _ h => h) (Or.inl ⟨by rfl, ?_⟩) (by assumption) ?_; rotate_left; (focus ((intro W hSW); (try dsimp only at hSW); (try go_split_ands); go_simp; (try (with_reducible rfl)); done))) | (refine Reg.take 7 (v := undef) rfl (by kernel_rfl) (by kernel_rfl) (by kernel_rfl) (fun _ _ _ h => h) (Or.inr ⟨by rfl, rfl⟩) (by assumption) ?_))
  (try simp only [Act.put, List.setIfInBounds_toArray, List.set_cons_zero, List.set_cons_succ])
  refine wpAnyH_done (by kernel_rfl) ?_ _
  go_wp2_with fail
  go_ret
  exact ⟨rfl, (Below.refl _ w).drew⟩

set_option maxRecDepth 100000 in
set_option maxHeartbeats 3200000 in
theorem find_any {A : Option Addr} {n c : Nat} {l : List Sp} {key e e' : Int} {w : World} (h : RowL w A n c l) (hr : Ch e l e') :
    Calls Tryz.prog 107 #[.slice A n c, .int .i64 key] w fun e w' => (∃ k : Nat, e = .returned (.int .i64 k) ∧ Place l key k) ∧ Below w.heap.size w w' := by
  have HR := Lib.hid h
  have HRI := Lib.hid hr
  have hbig := h.big
  have hlen := Lib.hid h.len
  have L1 : Hid (Below w.heap.size w ((w.alloc (.cells #[.slice A n c] 28)).alloc (.cells #[.int .i64 key] 3))) := ((Below.refl w.heap.size w).alloc (Nat.le_refl _) _).alloc (by simp) _
  have B1 : Hid (OneBox ((w.alloc (.cells #[.slice A n c] 28)).alloc (.cells #[.int .i64 key] 3)) w.heap.size 28 (.slice A n c)) := heap_alloc2_old w _ _
  have B2 : Hid (OneBox ((w.alloc (.cells #[.slice A n c] 28)).alloc (.cells #[.int .i64 key] 3)) (w.heap.size + 1) 3 (.int .i64 key)) := heap_alloc2_new w _ _
  clear h hr
  obtain ⟨p, hp⟩ : ∃ p : Nat → Bool, ∀ i x, l[i]? = some x → p i = decide (key < x.to) := by
    refine ⟨fun i => match l[i]? with | some x => decide (key < x.to) | none => false, fun i x hx => ?_⟩
    simp [hx]
  have HPP := Lib.hid hp
  clear hp
  go_enter Tryz.func107, Tryz.ntmps107
  go_upto_region 1 with fail
  generalize (w.alloc (.cells #[.slice A n c] 28)).alloc (.cells #[.int .i64 key] 3) = w1 at *
  have m0 := OneBox.cells B1.out
  have m1 := OneBox.cells B2.out
  have HS := Lib.hid (search_any (n := n) (w := w1) 124 #[.pointer (some ⟨w.heap.size, 0, none⟩), .pointer (some ⟨w.heap.size + 1, 0, none⟩)] (enters_of Tryz.func124 (by kernel_rfl) rfl) p hbig
    (fun W i hi hW => by
      obtain ⟨x, hx⟩ := HR.out.get hi
      rw [HPP.out i x hx]
      exact find1_any (HR.out.below (L1.out.trans (hW.mono L1.out.size))) hi hx (Cells.below B1.out hW) (Cells.below B2.out hW))
    (fun a b hab hb ha => by
      obtain ⟨x, hx⟩ := HR.out.get (show a < n by omega)
      obtain ⟨y, hy⟩ := HR.out.get hb
      rw [HPP.out a x hx, decide_eq_true_eq] at ha
      rw [HPP.out b y hy, decide_eq_true_eq]
      rcases Nat.eq_or_lt_of_le hab with h1 | h1
      · subst h1; rw [hx] at hy; injection hy with hy; subst hy; exact ha
      · have := ch_order HRI.out h1 hx hy; have := ch_at HRI.out hy; omega))
  go_wp2_with fail
  refine HS.out.mono ?_
  rintro e w2 ⟨⟨k, rfl, hk, hlo, hhi⟩, hb⟩
  have L2 := Lib.hid (L1.out.trans (hb.mono L1.out.size))
  have HPL : Hid (Place l key k) := ⟨by have := hlen.out; omega, fun t x ht hx => by
      have := hlo t ht
      rw [HPP.out t x hx, decide_eq_false_iff_not] at this; omega, fun t x ht hx => by
      have := hhi t ht (by have := (List.getElem?_eq_some_iff.1 hx).1; have := hlen.out; omega)
      rw [HPP.out t x hx, decide_eq_true_eq] at this; exact this⟩
  clear hb hlo hhi HS m0 m1 B1 B2 L1 HPP
  go_wp2_with fail
  go_ret
  exact ⟨⟨k, rfl, HPL.out⟩, L2.out⟩

def findP (l : List Sp) (k : Int) : Sp × Int := bif okS l then (match findS l k with | some s => (s, 0) | none => (zS, 1)) else (zS, 1)
/-- A span and an error, as a call gave them. -/
def Gave1 (w : World) (r : Sp × Int) (en : Ending) (w' : World) : Prop := en = .returned (.tuple #[sv r.1, .int .i64 r.2]) ∧ Below w.heap.size w w'

end Spa
end Go.Proofs.YtcpkgcckjphbfaaGreat
/-
  WALKS: slices.Clone, Grow of nil, Concat over spans; parts of a row. (Written by gen_spacopy.py.)
-/
namespace Go.Proofs.YtcpkgcckjphbfaaGreat
open Go.RowKit Mem
namespace Spa
/-- Two rows that lie in other blocks. -/
def Far (s t : Value) : Prop := s.ownBlock = none ∨ s.ownBlock ≠ t.ownBlock
theorem Far.symm {s t : Value} (h : Far s t) : Far t s := by
  unfold Far at *
  rcases e : t.ownBlock with _ | k
  · exact .inl rfl
  · refine .inr ?_
    rcases h with h | h
    · rw [h]; simp
    · rw [e] at h; exact Ne.symm h
/-- An append onto one row leaves the other where it is, and far. -/
theorem Far.step {base : Nat} {w : World} {s s' t : Value} {m : Nat} {xs : List Sp} (h : Far s t) (ht : OwnsL base w t m xs) (h5 : s'.ownBlock = s.ownBlock ∨ s'.ownBlock = some w.heap.size) : Far s' t := by
  unfold Far at *
  rcases h5 with h5 | h5
  · rw [h5]; exact h
  · refine .inr ?_
    rw [h5]
    intro e
    have := (ht.lt _ e.symm).2
    omega

theorem run_eql_nil (w : World) (A : Option Addr) (n c : Nat) : (binOp .eql 28 (.slice A n c) (.slice none 0 0)).run Tryz.prog w = .ok (.bool A.isNone) w :=
  Go.run_eql_slice_nil w _ _ A n c Tryz.underlying28

set_option maxRecDepth 100000 in
set_option maxHeartbeats 1600000 in
theorem clone_any {A : Option Addr} {n c : Nat} {l : List Sp} {w : World} (h : RowL w A n c l) (hn : n ≤ 1000000) :
    Calls Tryz.prog 41 #[.slice A n c] w fun e w' => (∃ B d, e = .returned (.slice B n d) ∧ OwnsL w.heap.size w' (.slice B n d) n l) ∧ Below w.heap.size w w' := by
  have HR := Lib.hid h
  have hb := h.big
  clear h
  have hq := fun w => run_eql_nil w A n c
  rcases A with _ | a
  · have hn : n = 0 := by
      rcases Nat.eq_zero_or_pos n with h0 | h0
      · exact h0
      · obtain ⟨b, o, e, -⟩ := HR.out.at_ h0
        cases e
    have hl : l = [] := List.eq_nil_of_length_eq_zero (by rw [HR.out.len, hn])
    subst hn hl
    have hd : (none : Option Addr).isNone = true := rfl
    rw [hd] at hq
    go_enter Tryz.func41, Tryz.ntmps41
    go_wp2
    go_ret
    exact ⟨⟨_, _, rfl, OwnsL.nil _ _⟩, Below.refl _ _⟩
  · have hd : (some a).isNone = false := rfl
    rw [hd] at hq
    have hmade : Hid (OwnsL w.heap.size (w.alloc (.cells #[] 48)) (.slice (some ⟨w.heap.size, 0, none⟩) 0 0) 0 []) := ⟨World.ownsRow_made w #[] 0 (Nat.le_refl _) (Nat.zero_le _) (by simp), rfl⟩
    go_enter Tryz.func41, Tryz.ntmps41
    go_wp2_with (at_builtin
                 refine wpList_append_l rfl (.tmp 5) (.tmp 6) rfl rfl w.heap.size _ 0 [] rfl hmade.out (some a) n c l rfl (RowS.alloc HR.out _) (by omega) (by simp) ?_
                 intro A' c' w' hown' hg' hb5
                 have O := Lib.hid (show OwnsL w.heap.size w' (.slice A' n c') n l by simpa using hown')
                 have B := Lib.hid (below_row hmade.out hg' (by simp))
                 clear hown' hg' hb5)
    go_ret
    exact ⟨⟨_, _, rfl, O.out⟩, ((Below.refl _ w).alloc (Nat.le_refl _) _).trans B.out⟩
theorem run_tailL (A : Option Addr) (n c k : Nat) (hk : k ≤ n) (w : World) : (Instr.slice 28 (.slice A n c) (some (.int .i64 (k : Int))) none none).run Tryz.prog w = .ok (.slice (if c = k then A else A.map (·.add (k * 4))) (n - k) (c - k)) w := by
  obtain ⟨i, hi, hz0, hz1, hz2⟩ := info_parts info_span
  have h1 : (k : Int) ≤ (n : Int) := by omega
  have h0 : (0 : Int) ≤ (k : Int) := by omega
  simp [Instr.slice, Instr.sliceBounds, run_sliceBound, h0, h1, run_underlying Tryz.underlying28, sizeOf, typeInfo, hi, hz1]
theorem run_headL (A : Option Addr) (n c k : Nat) (h : k ≤ c) (w : World) : (Instr.slice 28 (.slice A n c) none (some (.int .i64 (k : Int))) none).run Tryz.prog w = .ok (.slice A k c) w := by
  obtain ⟨i, hi, hz0, hz1, hz2⟩ := info_parts info_span
  have e : (if c = 0 then A else A.map (·.add 0)) = A := by
    split
    · rfl
    · cases A with
      | none => rfl
      | some x => simp [Addr.add]
  have h1 : (k : Int) ≤ (c : Int) := by omega
  have h0 : (0 : Int) ≤ (k : Int) := by omega
  simp [Instr.slice, Instr.sliceBounds, run_sliceBound, h0, h1, run_underlying Tryz.underlying28, sizeOf, typeInfo, hi, e]

theorem head0 (A : Option Addr) (n c : Nat) (w : World) : (Instr.slice 28 (.slice A n c) none (some (.int .i64 0)) none).run Tryz.prog w = .ok (.slice A 0 c) w := run_headL A n c 0 (by omega) w

set_option maxRecDepth 100000 in
set_option maxHeartbeats 800000 in
theorem growNil_any (n : Nat) (hn : n ≤ 2000000) (w : World) :
    Calls Tryz.prog 109 #[.slice none 0 0, .int .i64 n] w fun e w' => (∃ A c, e = .returned (.slice A 0 c) ∧ OwnsL w.heap.size w' (.slice A 0 c) 0 []) ∧ Below w.heap.size w w' := by
  rcases Nat.eq_zero_or_pos n with h0 | h0
  · subst h0
    go_enter Tryz.func109, Tryz.ntmps109
    go_wp2
    go_ret
    exact ⟨⟨_, _, rfl, OwnsL.nil _ _⟩, Below.refl _ _⟩
  · obtain ⟨i, hi, hz0, hz1, hz2⟩ := info_parts info_span
    have hr := fun w => Lib.run_append_nil_zeros (P := Tryz.prog) w 28 3 28 48 i _ .i64 .i64 Tryz.underlying28 Tryz.underlying3 hi hz0 n h0 (by omega) (by omega) (by rw [hz2]; omega)
    have HR := Lib.hid hr
    have hsl := head0
    clear hr hi hz0 hz1 hz2
    go_enter Tryz.func109, Tryz.ntmps109
    go_wp2_with (at_builtin
                 refine Lib.wpList_append_run _ rfl (.tmp 20) (.tmp 21) _ _ rfl _ _ rfl rfl _ _ (HR.out _) ?_)
    go_ret
    refine ⟨⟨_, _, rfl, ⟨?_, rfl⟩⟩, (Below.refl _ w).drew.alloc (Nat.le_refl _) _⟩
    refine World.ownsRow_made w.drew _ _ (Nat.le_refl _) (grownCap_le_maxLen w n 0 _ (by unfold maxLen; omega)) ?_
    have := grownCap_ge w n 0 48
    rw [Array.size_append, size_zeroCells, size_zeroCells]
    show n * 4 + (grownCap w n 0 48 - n) * 4 = grownCap w n 0 48 * 4
    omega

/-- A piece: where it lies, how long it is, its capacity, what it reads as. -/
structure Piece where
  A : Option Addr
  n : Nat
  c : Nat
  l : List Sp
def Piece.val (p : Piece) : Value := .slice p.A p.n p.c
def total (ps : List Piece) : Nat := (ps.map Piece.n).sum
def joined (ps : List Piece) : List Sp := ps.flatMap Piece.l
theorem total_snoc (ps : List Piece) (p : Piece) : total (ps ++ [p]) = total ps + p.n := by simp [total]
theorem joined_snoc (ps : List Piece) (p : Piece) : joined (ps ++ [p]) = joined ps ++ p.l := by simp [joined]
theorem total_take_le (ps : List Piece) (k : Nat) : total (ps.take k) ≤ total ps := by
  conv => rhs; rw [← List.take_append_drop k ps]
  unfold total
  rw [List.map_append, List.sum_append]
  omega

set_option maxRecDepth 100000 in
set_option maxHeartbeats 1600000 in
theorem concat_any {A : Option Addr} {n c : Nat} {ps : List Piece} {w : World} (h : Row Piece.val w A n c ps) (hp : ∀ p ∈ ps, RowL w p.A p.n p.c p.l) (ht : total ps ≤ 2000000) :
    Calls Tryz.prog 93 #[.slice A n c] w fun e w' => (∃ B k d, e = .returned (.slice B k d) ∧ OwnsL w.heap.size w' (.slice B k d) k (joined ps)) ∧ Below w.heap.size w w' := by
  have HR := Lib.hid h
  have HP := Lib.hid hp
  have hb := h.big
  clear h hp
  go_enter Tryz.func93, Tryz.ntmps93
  go_wp2
  go_loop [3, 5, 11] (fun s _ i => ∃ k z : Nat, i = .int .i64 k ∧ s = .int .i64 z ∧ k ≤ n ∧ z ≤ total ps ∧ Hid (total (ps.take k) = z)) (fun _ _ i => n - (intOf i).toNat)
  case atStart => exact ⟨0, 0, rfl, rfl, by omega, by omega, rfl⟩
  case round =>
    obtain ⟨k, z, rfl, rfl, hk, hz, hT⟩ := hrel
    by_cases hlt : k < n
    · obtain ⟨p, hp⟩ := HR.out.get hlt
      obtain ⟨b, o, rfl, hcell⟩ := HR.out.cell hp
      have hcell' : w.cell? ⟨b, o + k, none⟩ = some (.slice p.A p.n p.c) := hcell
      have hzn : z + p.n ≤ total ps := by
        have h1 := total_take_le ps (k + 1)
        rw [List.take_add_one, hp] at h1
        have h2 := total_snoc (ps.take k) p
        have := hT.out
        simp only [Option.toList_some] at h1
        omega
      have HE := Lib.hid hp
      clear hcell hp
      go_wp2
      go_round
      case rel => exact ⟨k + 1, z + p.n, by go_num, by go_num, by omega, hzn, by show _ = _; rw [List.take_add_one, HE.out, Option.toList_some, total_snoc, hT.out]⟩
      case measure => simp [intOf]; omega
    · have hkn : ps.take k = ps := List.take_of_length_le (by have := HR.out.len; omega)
      have hz2 : total ps = z := by rw [← hT.out, hkn]
      have HZ := Lib.hid hz2
      have HG := Lib.hid (fun w => growNil_any z (by omega) w)
      clear hkn hz2 hT
      go_wp2_with (go_at_call 109; refine (HG.out _).mono ?_; rintro e w2 ⟨⟨G, gc, rfl, hG⟩, hb2⟩; have OG := Lib.hid hG; have B2 := Lib.hid hb2; clear hG hb2)
      go_loopw [6, 8, 27] (fun s _ i wr => ∃ (S : Option Addr) (j d q : Nat), s = .slice S j d ∧ i = .int .i64 q ∧ q ≤ n ∧ Hid (OwnsL w.heap.size wr (.slice S j d) j (joined (ps.take q)) ∧ Below w.heap.size w wr ∧ j = total (ps.take q))) (fun _ _ i _ => n - (intOf i).toNat)
      case atStart => exact ⟨G, 0, gc, 0, rfl, rfl, by omega, OG.out, B2.out, rfl⟩
      case round =>
        obtain ⟨S, j, d, q, rfl, rfl, hq, hO⟩ := hrel
        by_cases hlq : q < n
        · obtain ⟨p, hp⟩ := HR.out.get hlq
          obtain ⟨b, o, rfl, hcell⟩ := (HR.out.below hO.out.2.1).cell hp
          have hcell' : wr.cell? ⟨b, o + q, none⟩ = some (.slice p.A p.n p.c) := hcell
          have hzn : Hid (j + p.n ≤ total ps) := by
            have h1 := total_take_le ps (q + 1)
            rw [List.take_add_one, hp] at h1
            have h2 := total_snoc (ps.take q) p
            have := hO.out.2.2
            simp only [Option.toList_some] at h1
            show _ ≤ _
            omega
          have HE := Lib.hid hp
          have RP := Lib.hid ((HP.out p (List.mem_of_getElem? hp)).below hO.out.2.1)
          clear hcell hp
          go_wp2_with (at_builtin
                       refine wpList_append_l rfl (.tmp 31) (.tmp 32) rfl rfl w.heap.size (.slice S j d) j _ rfl hO.out.1 p.A p.n p.c p.l rfl RP.out (by have := hzn.out; omega) hO.out.2.1.size ?_
                       intro A3 c3 w3 hown3 hg3 h53
                       have O3 := Lib.hid hown3
                       have B3 := Lib.hid (below_row hO.out.1 hg3 hO.out.2.1.size)
                       clear hown3 hg3 h53)
          go_roundw
          case rel =>
            refine ⟨A3, j + p.n, c3, q + 1, rfl, by go_num, by omega, ?_, hO.out.2.1.trans B3.out, ?_⟩
            · rw [List.take_add_one, HE.out, Option.toList_some, joined_snoc]; exact O3.out
            · rw [List.take_add_one, HE.out, Option.toList_some, total_snoc, ← hO.out.2.2]
          case measure => simp [intOf]; omega
        · have hkn : ps.take q = ps := List.take_of_length_le (by have := HR.out.len; omega)
          have HK := Lib.hid hkn
          clear hkn
          go_wp2
          go_ret
          have h := hO.out
          rw [HK.out] at h
          exact ⟨⟨_, _, _, rfl, h.1⟩, h.2.1⟩

/-- Two pieces in one block. -/
theorem row_two {w : World} {A B : Option Addr} {n c m d : Nat} {a b : List Sp} {t : TypeId} {q : Nat} (h : Cells w q t #[.slice A n c, .slice B m d]) :
    Row Piece.val w (some ⟨q, 0, none⟩) 2 2 [⟨A, n, c, a⟩, ⟨B, m, d, b⟩] := by
  refine ⟨rfl, by omega, by omega, fun _ => ⟨_, _, rfl, Cells.lt h, fun i x hi => ?_⟩⟩
  rw [Nat.zero_add, Cells.cell h]
  match i, hi with
  | 0, hi => simp at hi; subst hi; rfl
  | 1, hi => simp at hi; subst hi; rfl
theorem RowS.head {w : World} {A : Option Addr} {n c : Nat} {l : List Sp} (h : RowL w A n c l) {k : Nat} (hk : k ≤ n) : RowL w A k c (l.take k) := by
  refine ⟨by rw [List.length_take, h.len]; omega, by have := h.cap; omega, by have := h.big; omega, fun h0 => ?_⟩
  obtain ⟨b, o, e, hb, hc⟩ := h.at_ (by omega)
  refine ⟨b, o, e, hb, fun i x hx j u hu => ?_⟩
  rw [List.getElem?_take] at hx
  split at hx
  · exact hc i x hx j u hu
  · cases hx
def tailA (A : Option Addr) (c k : Nat) : Option Addr := if c = k then A else A.map (·.add (k * 4))
theorem RowS.tail {w : World} {A : Option Addr} {n c : Nat} {l : List Sp} (h : RowL w A n c l) {k : Nat} (hk : k ≤ n) : RowL w (tailA A c k) (n - k) (c - k) (l.drop k) := by
  refine ⟨by rw [List.length_drop, h.len], by have := h.cap; omega, by have := h.big; omega, fun h0 => ?_⟩
  obtain ⟨b, o, e, hb, hc⟩ := h.at_ (by omega)
  refine ⟨b, o + k * 4, ?_, hb, fun i x hx j u hu => ?_⟩
  · unfold tailA
    rw [if_neg (by have := h.cap; omega), e]
    simp [Mem.add_none]
  · rw [List.getElem?_drop] at hx
    have := hc (k + i) x hx j u hu
    rwa [show o + (k + i) * 4 + j = o + k * 4 + i * 4 + j by omega] at this

end Spa
end Go.Proofs.YtcpkgcckjphbfaaGreat
/-
  WALKS: parts, Parts.
-/
namespace Go.Proofs.YtcpkgcckjphbfaaGreat
open Go.RowKit Mem
namespace Spa

theorem run_midL (A : Option Addr) (n c k j : Nat) (hk : k ≤ j) (hj : j ≤ c) (w : World) : (Instr.slice 28 (.slice A n c) (some (.int .i64 (k : Int))) (some (.int .i64 (j : Int))) none).run Tryz.prog w = .ok (.slice (tailA A c k) (j - k) (c - k)) w := by
  obtain ⟨i, hi, hz0, hz1, hz2⟩ := info_parts info_span
  have h1 : (k : Int) ≤ (j : Int) := by omega
  have h0 : (0 : Int) ≤ (k : Int) := by omega
  have h2 : (j : Int) ≤ (c : Int) := by omega
  have h3 : (0 : Int) ≤ (j : Int) := by omega
  simp [Instr.slice, Instr.sliceBounds, run_sliceBound, h0, h1, h2, h3, run_underlying Tryz.underlying28, sizeOf, typeInfo, hi, hz1, tailA]
theorem between_row {w : World} {A : Option Addr} {n c : Nat} {l : List Sp} (h : RowL w A n c l) {i j : Nat} (hi : i ≤ j) (hj : j < n) : RowL w (tailA A c i) (j + 1 - i) (c - i) (between l i j) :=
  RowS.head (RowS.tail h (show i ≤ n by omega)) (by omega)

set_option maxRecDepth 100000 in
set_option maxHeartbeats 6400000 in
theorem parts_any {A : Option Addr} {n c : Nat} {l : List Sp} {N : Int} {w : World} (a b : Int) (h : RowL w A n c l) (hn : n ≤ 1000000) (hch : Ch 0 l N) (hN : N ≤ 1099511627776) (h0 : 0 ≤ a) (hab : a ≤ b) (hb : b ≤ N) :
    Calls Tryz.prog 88 #[.slice A n c, .int .i64 a, .int .i64 b] w fun e w' => (∃ B m d, e = .returned (.slice B m d) ∧ m ≤ n ∧ OwnsL w.heap.size w' (.slice B m d) m (partsS l a b)) ∧ Below w.heap.size w w' := by
  have HR := Lib.hid h
  have hbig := h.big
  have hcap := h.cap
  have hlen := Lib.hid h.len
  have HCH := Lib.hid hch
  have HAB := Lib.hid (And.intro h0 (And.intro hab (And.intro hb hN)))
  have HFA := fun w (h : RowL w A n c l) => Lib.hid (find_any (key := a) h hch)
  have HFB := fun w (h : RowL w A n c l) => Lib.hid (find_any (key := b - 1) h hch)
  clear h h0 hab hb hN hch
  rcases e1 : (a == b)
  · have hne : Hid (a < b) := by have h1 : a ≠ b := by simpa using e1
                                 have := HAB.out; show a < b; omega
    have hwb : IntKind.i64.wrap (b - 1) = b - 1 := by have := HAB.out; have := hne.out; rw [IntKind.wrap_i64]; omega
    go_enter Tryz.func88, Tryz.ntmps88
    go_wp2_with fail
    refine (HFA w HR.out).out.mono ?_
    rintro e w2 ⟨⟨i, rfl, hpi⟩, hb⟩
    have L2 := Lib.hid hb
    have PI := Lib.hid hpi
    clear hb hpi HFA
    go_wp2_with fail
    refine (HFB w2 (HR.out.below L2.out)).out.mono ?_
    rintro e w3 ⟨⟨j, rfl, hpj⟩, hb⟩
    have L3 := Lib.hid (L2.out.trans (hb.mono L2.out.size))
    have PJ := Lib.hid hpj
    clear hb hpj HFB L2
    obtain ⟨hij, hjl, -⟩ := parts_between HCH.out hne.out HAB.out.1 HAB.out.2.2.1 PI.out PJ.out
    have hjn : j < n := by have := hlen.out; omega
    have HIJ := Lib.hid (And.intro hij hjn)
    have R3 := Lib.hid (between_row (HR.out.below L3.out) hij hjn)
    obtain ⟨m, hm⟩ : ∃ m, m = j + 1 - i := ⟨_, rfl⟩
    have hsl : ∀ w, (Instr.slice 28 (.slice A n c) (some (.int .i64 (i : Int))) (some (.int .i64 ((j : Int) + 1))) none).run Tryz.prog w = .ok (.slice (tailA A c i) m (c - i)) w := by
      intro w
      have := run_midL A n c i (j + 1) (by omega) (by omega) w
      rw [hm]
      exact this
    rw [← hm] at R3
    have hwj : IntKind.i64.wrap ((j : Int) + 1) = (j : Int) + 1 := by rw [IntKind.wrap_i64]; omega
    have HM := Lib.hid hm
    have HCL := fun w (h : RowL w (tailA A c i) m (c - i) (between l i j)) => Lib.hid (clone_any h (by have := HM.out; have := HIJ.out; omega))
    clear hij hjl hjn hm
    generalize tailA A c i = TA at *
    generalize c - i = TC at *
    go_wp2_with fail
    refine (HCL w3 R3.out).out.mono ?_
    rintro e w4 ⟨⟨B, d, rfl, hO⟩, hb⟩
    have L4 := Lib.hid (L3.out.trans (hb.mono L3.out.size))
    have O4 := Lib.hid (hO.mono L3.out.size)
    clear hb hO HCL R3
    obtain ⟨q, hq⟩ : ∃ q, q = j - i := ⟨_, rfl⟩
    have hqm : m = q + 1 := by have := HM.out; have := HIJ.out; omega
    have hbl : (between l i j).length = m := O4.out.2
    obtain ⟨x, hx⟩ : ∃ x, (between l i j)[0]? = some x := ⟨_, List.getElem?_eq_getElem (by omega)⟩
    obtain ⟨y, hy⟩ : ∃ y, ((between l i j).set 0 (putFr x a))[q]? = some y := ⟨_, List.getElem?_eq_getElem (by rw [List.length_set]; omega)⟩
    have FIN : Hid (partsS l a b = ((between l i j).set 0 (putFr x a)).set q (longer y b)) := by
      show _ = _
      have h1 := parts_code HCH.out hne.out HAB.out.1 HAB.out.2.2.1 PI.out PJ.out hx (by rw [← hq]; exact hy)
      rw [← hq] at h1
      exact h1
    obtain ⟨g, hB, hge, hgl, ⟨q0, q1, q2, q3⟩, hfz, hput⟩ := OwnsL.put O4.out hx
    subst hB
    have O5 := Lib.hid (hput 0 (.int .i64 a) (putFr x a) (by omega) rfl)
    have L5 : Hid (Below w.heap.size w (w4.setCell ⟨g, 0 * 4 + 0, none⟩ (.int .i64 a))) := belowk L4.out hge _ _
    have hf0 := hfz 0
    simp only [Nat.zero_mul, Nat.add_zero] at q0 O5 L5
    have hm0 : (0 : Int) < (m : Int) := by omega
    have HQ := Lib.hid (And.intro hq hqm)
    have HX := Lib.hid hx
    have HY := Lib.hid hy
    have hqw : (m : Int) - 1 = (q : Int) := by omega
    have hq0 : (0 : Int) ≤ (q : Int) := by omega
    have hqn : (q : Int) < (m : Int) := by omega
    have hmn : m ≤ n := by have := HM.out; have := HIJ.out; omega
    clear hput hfz hx hy hq hqm hbl q1 q2 q3
    go_upto_region 5 with fail
    generalize w4.setCell ⟨g, 0, none⟩ (.int .i64 a) = w5 at *
    clear q0 hf0
    obtain ⟨g2, hB, hge2, hgl2, ⟨p0, p1, p2, p3⟩, hfz, hput⟩ := OwnsL.put O5.out HY.out
    injection hB with hB
    injection hB with hB
    subst hB
    have O6 := Lib.hid (hput 1 (.int .i64 b) (longer y b) (by omega) rfl)
    have L6 : Hid (Below w.heap.size w (w5.setCell ⟨g, q * 4 + 1, none⟩ (.int .i64 b))) := belowk L5.out hge _ _
    have hf1 := hfz (q * 4 + 1)
    have hqw2 : IntKind.i64.wrap (q : Int) = (q : Int) := by rw [IntKind.wrap_i64]; omega
    clear hput hfz p0 p2 p3
    go_wp2_with fail
    go_ret
    exact ⟨⟨_, m, d, rfl, hmn, by rw [FIN.out]; exact O6.out⟩, L6.out⟩
  · have hE : a = b := by simpa using e1
    have HN : Hid (partsS l a b = []) := by show _ = _; rw [hE]; exact partsS_self l b
    clear hE
    go_enter Tryz.func88, Tryz.ntmps88
    go_wp2_with fail
    go_ret
    exact ⟨⟨none, 0, 0, rfl, Nat.zero_le _, by rw [HN.out]; exact OwnsL.nil _ _⟩, Below.refl _ _⟩

set_option maxRecDepth 100000 in
set_option maxHeartbeats 3200000 in
theorem Parts_any {A : Option Addr} {n c : Nat} {l : List Sp} {w : World} (a b : Int) (h : RowL w A n c l) (hn : n ≤ 1000000) :
    Calls Tryz.prog 68 #[.slice A n c, .int .i64 a, .int .i64 b] w (GaveS w (partsP l a b)) := by
  have HR := Lib.hid h
  have hbig := h.big
  have hlen := Lib.hid h.len
  clear h
  unfold partsP rangeB
  rcases hok : okS l
  · have HC := fun w (h : RowL w A n c l) => Lib.hid (check_badT h hok)
    go_enter Tryz.func68, Tryz.ntmps68
    go_wp2_with fail
    refine (HC w HR.out).out.mono ?_
    rintro e w2 ⟨rfl, hb⟩
    have L2 := Lib.hid hb
    clear hb
    go_wp2_with fail
    go_ret2
    exact GaveS.none_ L2.out
  · have HC := fun w (h : RowL w A n c l) => Lib.hid (check_okT h hok)
    have hn0 : 0 < n := by
      have := (okS_iff.1 hok).2.2.1
      rcases Nat.eq_zero_or_pos n with h0 | h0
      · exact absurd (List.eq_nil_of_length_eq_zero (by rw [hlen.out, h0])) this
      · exact h0
    have HE := fun w (h : RowL w A n c l) => Lib.hid (end_any h hn0)
    have HCH := Lib.hid (And.intro (ok_ch hok) (ok_le hok))
    clear hok hn0
    generalize endF 0 l = N at *
    rcases e1 : decide (a < 0)
    · rcases e2 : decide (b ≤ a)
      · rcases e3 : decide (N < b)
        · have HP := fun w (h : RowL w A n c l) => Lib.hid (parts_any a b h hn HCH.out.1 HCH.out.2 (by have := of_decide_eq_false e1; omega) (by have := of_decide_eq_false e2; omega) (by have := of_decide_eq_false e3; omega))
          go_enter Tryz.func68, Tryz.ntmps68
          go_wp2_with fail
          refine (HC w HR.out).out.mono ?_
          rintro e w2 ⟨rfl, hb⟩
          have L2 := Lib.hid hb
          clear hb
          go_wp2_with fail
          refine (HE w2 (HR.out.below L2.out)).out.mono ?_
          rintro e w3 ⟨rfl, hb⟩
          have L3 := Lib.hid (L2.out.trans (hb.mono L2.out.size))
          clear hb L2
          go_wp2_with fail
          refine (HP w3 (HR.out.below L3.out)).out.mono ?_
          rintro e w4 ⟨⟨B, m, d, rfl, hm, hO⟩, hb⟩
          have L4 := Lib.hid (L3.out.trans (hb.mono L3.out.size))
          have O4 := Lib.hid (hO.mono L3.out.size)
          clear hb hO L3 HP
          go_wp2_with fail
          go_ret2
          exact GaveS.of O4.out (by omega) L4.out
        · go_enter Tryz.func68, Tryz.ntmps68
          go_wp2_with fail
          refine (HC w HR.out).out.mono ?_
          rintro e w2 ⟨rfl, hb⟩
          have L2 := Lib.hid hb
          clear hb
          go_wp2_with fail
          refine (HE w2 (HR.out.below L2.out)).out.mono ?_
          rintro e w3 ⟨rfl, hb⟩
          have L3 := Lib.hid (L2.out.trans (hb.mono L2.out.size))
          clear hb L2
          go_wp2_with fail
          go_ret2
          exact GaveS.none_ L3.out
      · go_enter Tryz.func68, Tryz.ntmps68
        go_wp2_with fail
        refine (HC w HR.out).out.mono ?_
        rintro e w2 ⟨rfl, hb⟩
        have L2 := Lib.hid hb
        clear hb
        go_wp2_with fail
        go_ret2
        exact GaveS.none_ L2.out
    · go_enter Tryz.func68, Tryz.ntmps68
      go_wp2_with fail
      refine (HC w HR.out).out.mono ?_
      rintro e w2 ⟨rfl, hb⟩
      have L2 := Lib.hid hb
      clear hb
      go_wp2_with fail
      go_ret2
      exact GaveS.none_ L2.out
end Spa
end Go.Proofs.YtcpkgcckjphbfaaGreat
/-
  WALKS: New, Owned.
-/
namespace Go.Proofs.YtcpkgcckjphbfaaGreat
open Go.RowKit Mem
namespace Spa

set_option maxRecDepth 100000 in
set_option maxHeartbeats 1600000 in
theorem noOnes_any (a b : Int) (w : World) :
    Calls Tryz.prog 53 #[.int .i64 a, .int .i64 b] w fun e w' => e = .returned (sv ⟨a, b, -1, 0⟩) ∧ Below w.heap.size w w' := by
  have L1 : Hid (Below w.heap.size w (w.alloc (.cells #[.int .i64 0, .int .i64 0, .int .i64 0, .int .i64 0] 48))) := (Below.refl w.heap.size w).alloc (Nat.le_refl _) _
  have N1 : Hid (LBox (w.alloc (.cells #[.int .i64 0, .int .i64 0, .int .i64 0, .int .i64 0] 48)) w.heap.size zS) := Cells.new w _ _
  go_enter Tryz.func53, Tryz.ntmps53
  go_upto_region 1 with fail
  generalize w.alloc (.cells #[.int .i64 0, .int .i64 0, .int .i64 0, .int .i64 0] 48) = w1 at *
  obtain ⟨z0, z1, z2, z3⟩ := LBox.cells (x := zS) N1.out
  obtain ⟨f0, f1, f2, f3⟩ := LBox.frozen (x := zS) N1.out
  go_wp2_with fail
  refine bodyPost_ret_by (results_c0 rfl _ _ w.heap.size _ _ _ _ rfl (Cells.set4 N1.out (.int .i64 a) (.int .i64 b) (.int .i64 (-1)) (.int .i64 0)) Tryz.underlying48 rfl (by kernel_rfl)) rfl ?_
  exact ⟨rfl, below4 L1.out (Nat.le_refl _) _ _ _ _⟩

def newB (n : Int) : Bool := decide (1 ≤ n) && decide (n ≤ 1099511627776)
def newP (n : Int) : List Sp × Int := bif newB n then ([⟨0, n, -1, 0⟩], 0) else ([], 1)

set_option maxRecDepth 100000 in
set_option maxHeartbeats 1600000 in
theorem new_any (n : Int) (w : World) : Calls Tryz.prog 36 #[.int .i64 n] w (GaveS w (newP n)) := by
  have HN := fun w => Lib.hid (noOnes_any 0 n w)
  unfold newP newB
  rcases e1 : decide (n < 1)
  · rcases e2 : decide (1099511627776 < n)
    · rw [decide_eq_true (show 1 ≤ n by have := of_decide_eq_false e1; omega), decide_eq_true (show n ≤ 1099511627776 by have := of_decide_eq_false e2; omega)]
      go_enter Tryz.func36, Tryz.ntmps36
      go_wp2_with fail
      refine (HN w).out.mono ?_
      rintro e w2 ⟨rfl, hb⟩
      have L2 := Lib.hid hb
      clear hb
      have O2 : Hid (OwnsL w.heap.size (w2.alloc (.cells #[.int .i64 0, .int .i64 n, .int .i64 (-1), .int .i64 0] 48)) (.slice (some ⟨w2.heap.size, 0, none⟩) 1 1) 1 [⟨0, n, -1, 0⟩]) :=
        OwnsL.built ⟨0, n, -1, 0⟩ L2.out.size
      have L3 : Hid (Below w.heap.size w (w2.alloc (.cells #[.int .i64 0, .int .i64 n, .int .i64 (-1), .int .i64 0] 48))) := L2.out.alloc L2.out.size _
      go_wp2_with fail
      go_ret2
      exact GaveS.of O2.out (by omega) L3.out
    · rw [decide_eq_false (show ¬ n ≤ 1099511627776 by have := of_decide_eq_true e2; omega), Bool.and_false]
      go_enter Tryz.func36, Tryz.ntmps36
      go_wp2_with fail
      go_ret2
      exact GaveS.none_ (Below.refl _ _)
  · rw [decide_eq_false (show ¬ 1 ≤ n by have := of_decide_eq_true e1; omega), Bool.false_and]
    go_enter Tryz.func36, Tryz.ntmps36
    go_wp2_with fail
    go_ret2
    exact GaveS.none_ (Below.refl _ _)

end Spa
end Go.Proofs.YtcpkgcckjphbfaaGreat
