/-
  WALKS: a block's bytes by a number; the counts.
-/
import Derived.Test.YtfngebikihdogaaCacRem
import Derived.Laws.MakeOwn
import Derived.Laws.LoneSync
namespace Go.Proofs.Ytfngebikihdogaa
open Go.RowKit Mem Box GM
namespace Cac
theorem run_make16 (w : World) : (Instr.makeSlice 32 (.int .i64 16) (.int .i64 16)).run Try.prog w = .ok (.slice (some ⟨w.heap.size, 0, none⟩) 16 16) (w.alloc (.cells (madeCells #[.int .u8 0] 16) 5)) := by
  obtain ⟨i, hi, hz0, hz1, hz2⟩ := info_parts info_byte
  have h := run_make (P := Try.prog) w 32 5 i _ Try.underlying32 hi hz0 .i64 .i64 16 16 (by omega) (by omega) (by rw [hz2]; omega) (by omega)
  rw [hz1] at h
  exact h
/-- Byte i of number n's text. -/
def tb (n : Int) (i : Nat) : BitVec 8 := Args.byte (n / 2 ^ (i % 4 * 8) % 256)
def tx (n : Int) : List (BitVec 8) := (List.range 16).map (tb n)
theorem cb_tb (n : Int) (i : Nat) : cb (tb n i) = .int .u8 (n / 2 ^ (i % 4 * 8) % 256) := by
  have h : u (tb n i) = n / 2 ^ (i % 4 * 8) % 256 := by
    unfold tb
    refine Args.u_byte ?_
    have h1 : IntKind.u8.min = 0 := rfl
    have h2 : IntKind.u8.max = 255 := rfl
    simp only [Lit.wf, Bool.and_eq_true, decide_eq_true_eq]
    omega
  unfold cb
  rw [h]
theorem tx_len (n : Int) : (tx n).length = 16 := by simp [tx]
theorem tx_get {n : Int} {j : Nat} {y : BitVec 8} (h : (tx n)[j]? = some y) : j < 16 ∧ y = tb n j := by
  have hj : j < 16 := by have := (List.getElem?_eq_some_iff.1 h).1; rwa [tx_len] at this
  unfold tx at h
  rw [List.getElem?_map, List.getElem?_range hj] at h
  injection h with h
  exact ⟨hj, h.symm⟩
/-- Sixteen bytes in a block of their own. -/
def TextAt (w : World) (A : Option Addr) (l : List (BitVec 8)) : Prop := ∃ q cs, A = some ⟨q, 0, none⟩ ∧ Cells w q 5 cs ∧ cs.size = 16 ∧ l.length = 16 ∧ ∀ (j : Nat) (y : BitVec 8), l[j]? = some y → cs[j]? = some (cb y)
theorem TextAt.row {w : World} {A : Option Addr} {l : List (BitVec 8)} (h : TextAt w A l) : Row cb w A 16 16 l := by
  obtain ⟨q, cs, rfl, hc, -, hl, ht⟩ := h
  exact ⟨hl, by omega, by omega, fun _ => ⟨q, 0, rfl, hc.lt, fun i y hy => (hc.cell (0 + i)).trans (by rw [Nat.zero_add]; exact ht i y hy)⟩⟩
theorem TextAt.below {w w' : World} {A : Option Addr} {l : List (BitVec 8)} (h : TextAt w A l) (hb : Below w.heap.size w w') : TextAt w' A l := by
  obtain ⟨q, cs, rfl, hc, hr⟩ := h
  exact ⟨q, cs, rfl, hc.below hb, hr⟩
theorem TextAt.mov {w w' : World} {A : Option Addr} {l : List (BitVec 8)} {g r : Nat} {m h s : Int} {ns : List Nd} (H : TextAt w A l) (C : CacheAt w g r m ns h s) {S : List Nat} (hb : Mov S w w') (hS : ∀ x ∈ S, x ∈ foot g r ns ∨ w.heap.size ≤ x) : TextAt w' A l := by
  obtain ⟨q, cs, rfl, hc, hr⟩ := H
  refine ⟨q, cs, rfl, hc.mov hb fun hq => ?_, hr⟩
  rcases hS q hq with h1 | h1
  · exact C.not hc (by decide) (by decide) h1
  · have := hc.lt; omega
/-- The bytes laid so far. -/
structure TLaid (w0 w : World) (n : Int) (k : Nat) : Prop where
  below : Below w0.heap.size w0 w
  cells : ∃ cs, Cells w w0.heap.size 5 cs ∧ cs.size = 16 ∧ ∀ j, j < k → cs[j]? = some (cb (tb n j))
set_option maxRecDepth 100000 in
set_option maxHeartbeats 3200000 in
theorem text_any (n : Int) (w : World) : Calls Try.prog 10 #[.int .i64 n] w fun e w' => ∃ A, e = .returned (.slice A 16 16) ∧ TextAt w' A (tx n) ∧ Below w.heap.size w w' := by
  obtain ⟨o, ho⟩ : ∃ o : Nat, o = 0 := ⟨0, rfl⟩
  have HO := Lib.hid ho
  have hmk : ∀ w : World, (Instr.makeSlice 32 (.int .i64 16) (.int .i64 16)).run Try.prog w = .ok (.slice (some ⟨w.heap.size, o, none⟩) 16 16) (w.alloc (.cells (madeCells #[.int .u8 0] 16) 5)) := by
    rw [ho]; exact fun w => run_make16 w
  have L0 : Hid (TLaid w (w.alloc (.cells (madeCells #[.int .u8 0] 16) 5)) n 0) := ⟨(Below.refl _ w).alloc (Nat.le_refl _) _, _, Cells.new w _ _, by simp [madeCells], fun j hj => by omega⟩
  clear ho
  go_enter Try.func10, Try.ntmps10
  go_upto_region 2 with fail
  generalize w.alloc (.cells (madeCells #[.int .u8 0] 16) 5) = w1 at *
  go_wp2_with fail
  go_loopw [4, 8] (fun _ i wr => ∃ k : Nat, i = .int .i64 k ∧ k ≤ 16 ∧ Hid (TLaid w wr n k)) (fun _ i _ => 16 - (intOf i).toNat)
  case atStart => exact ⟨0, rfl, by omega, L0.out⟩
  case round =>
    obtain ⟨k, rfl, hk, hH⟩ := hrel
    by_cases hlt : k < 16
    · have hk0 : (0 : Int) ≤ (k : Int) := by omega
      have hkn : (k : Int) < 16 := by omega
      obtain ⟨cs, hcs, hsz, hat⟩ := hH.out.cells
      obtain ⟨u, hu⟩ : ∃ u, wr.cell? ⟨w.heap.size, o + k, none⟩ = some u := by
        rw [HO.out, Nat.zero_add, Cells.cell hcs]
        exact ⟨_, Array.getElem?_eq_getElem (by omega)⟩
      have hfz : wr.frozen? ⟨w.heap.size, o + k, none⟩ = false := Cells.frozen hcs _
      have FIN : Hid (TLaid w (wr.setCell ⟨w.heap.size, o + k, none⟩ (.int .u8 (n / 2 ^ (k % 4 * 8) % 256))) n (k + 1)) := by
        refine ⟨hH.out.below.setCell (p := ⟨w.heap.size, o + k, none⟩) (Nat.le_refl _) _, _, Cells.set_ hcs _ _, by simpa using hsz, fun j hj => ?_⟩
        rw [HO.out, Nat.zero_add, Array.getElem?_setIfInBounds]
        by_cases h1 : k = j
        · subst h1
          rw [if_pos rfl, if_pos (by omega), cb_tb]
        · rw [if_neg h1]
          exact hat j (by omega)
      clear hcs hsz hat
      go_wp2_with fail
      exact ⟨⟨k + 1, by go_num, by omega, FIN.out⟩, by simp [intOf]; omega⟩
    · have hk16 : k = 16 := by omega
      subst hk16
      go_wp2_with fail
      go_ret
      obtain ⟨cs, hcs, hsz, hat⟩ := hH.out.cells
      exact ⟨_, by rw [HO.out]; rfl, ⟨_, cs, rfl, hcs, hsz, tx_len n, fun j y hy => by obtain ⟨hj, rfl⟩ := tx_get hy; exact hat j hj⟩, hH.out.below⟩

/-! ### The counts -/
set_option maxRecDepth 100000 in
set_option maxHeartbeats 800000 in
theorem add_any {w : World} {g i : Nat} {n : Int} (hc : w.cell? ⟨g, i, none⟩ = some (.int .i64 n)) (hf : w.frozen? ⟨g, i, none⟩ = false) (h0 : 0 ≤ n) (h1 : n ≤ 4611686018427387904) :
    Calls Try.prog 20 #[.pointer (some ⟨g, i, none⟩), .int .i64 1] w fun e w' => e = .returned (.int .i64 (n + 1)) ∧ w' = w.setCell ⟨g, i, none⟩ (.int .i64 (n + 1)) := by
  have hsum : (Op.intArith .add .i64 n 1).run Try.prog w = .ok (.int .i64 (n + 1)) w := by
    have e := IntWalk.i64_in (n + 1) (by omega)
    simp [go_sem, e]
  have hadd := run_call_add (P := Try.prog) Try.func24 (by kernel_rfl) (by kernel_rfl) (by kernel_rfl) .i64 (by kernel_rfl) (y := 1) (s := n + 1) hc hf hsum
  clear hsum hc hf
  go_enter Try.func20, Try.ntmps20
  go_wp2_with fail
  go_ret
  exact ⟨rfl, rfl⟩
set_option maxRecDepth 100000 in
set_option maxHeartbeats 800000 in
theorem load_any {w : World} {g i : Nat} {n : Int} (hc : w.cell? ⟨g, i, none⟩ = some (.int .i64 n)) :
    Calls Try.prog 23 #[.pointer (some ⟨g, i, none⟩)] w fun e w' => e = .returned (.int .i64 n) ∧ w' = w := by
  have hl := run_call_load (P := Try.prog) Try.func25 (by kernel_rfl) (by kernel_rfl) (by kernel_rfl) .i64 (by kernel_rfl) hc
  clear hc
  go_enter Try.func23, Try.ntmps23
  go_wp2_with fail
  go_ret
  exact ⟨rfl, rfl⟩
set_option maxRecDepth 100000 in
set_option maxHeartbeats 1600000 in
theorem hits_any {w : World} {g r : Nat} {m h s : Int} {ns : List Nd} (H : CacheAt w g r m ns h s) :
    Calls Try.prog 15 #[.pointer (some ⟨g, 0, none⟩)] w fun e w' => e = .returned (.tuple #[.int .i64 h, .int .i64 s]) ∧ Below w.heap.size w w' := by
  have HC := Lib.hid H
  have HA := fun w => Lib.hid (asked_any g w)
  have c4 : w.drew.cell? ⟨g, 4, none⟩ = some (.int .i64 h) := H.dl.head.cells.2.2.2.2.1
  have c5 : w.drew.cell? ⟨g, 5, none⟩ = some (.int .i64 s) := H.dl.head.cells.2.2.2.2.2
  have LD : Hid (Below w.heap.size w w.drew) := (Below.refl _ w).drew
  clear H
  go_enter Try.func15, Try.ntmps15
  go_wp2_with fail
  refine (HA _).out.mono ?_
  rintro e w1 ⟨rfl, hw⟩
  obtain rfl := hw.symm
  clear HA
  go_upto_region 2 with fail
  have HL := fun W (hW : W = w.drew) => Lib.hid (load_any (w := W) (g := g) (i := 4) (n := h) (by rw [hW]; exact c4))
  have HM := fun W (hW : W = w.drew) => Lib.hid (load_any (w := W) (g := g) (i := 5) (n := s) (by rw [hW]; exact c5))
  refine wp_region_held_drew (S := fun W => W = w.drew) (by kernel_rfl) rfl (fun hHeld => ?_)
  clear c4 c5
  (first | (refine Reg.take 0 (v := ?_) rfl (by kernel_rfl) (by kernel_rfl) (by kernel_rfl) (fun _ _ _ h => h) (Or.inl ⟨by rfl, ?_⟩) (by assumption) ?_; rotate_left; (focus ((intro W hSW); (try dsimp only at hSW); (try go_split_ands); go_simp; (try (with_reducible rfl)); done))) | (refine Reg.take 0 (v := undef) rfl (by kernel_rfl) (by kernel_rfl) (by kernel_rfl) (fun _ _ _ h => h) (Or.inr ⟨by rfl, rfl⟩) (by assumption) ?_))
  (try simp only [Act.put, List.setIfInBounds_toArray, List.set_cons_zero, List.set_cons_succ])
  (first | (refine Reg.take 1 (v := ?_) rfl (by kernel_rfl) (by kernel_rfl) (by kernel_rfl) (fun _ _ _ h => h) (Or.inl ⟨by rfl, ?_⟩) (by assumption) ?_; rotate_left; (focus ((intro W hSW); (try dsimp only at hSW); (try go_split_ands); go_simp; (try (with_reducible rfl)); done))) | (refine Reg.take 1 (v := undef) rfl (by kernel_rfl) (by kernel_rfl) (by kernel_rfl) (fun _ _ _ h => h) (Or.inr ⟨by rfl, rfl⟩) (by assumption) ?_))
  (try simp only [Act.put, List.setIfInBounds_toArray, List.set_cons_zero, List.set_cons_succ])
  (first | (refine Reg.take 2 (v := ?_) rfl (by kernel_rfl) (by kernel_rfl) (by kernel_rfl) (fun _ _ _ h => h) (Or.inl ⟨by rfl, ?_⟩) (by assumption) ?_; rotate_left; (focus ((intro W hSW); (try dsimp only at hSW); (try go_split_ands); go_simp; (try (with_reducible rfl)); done))) | (refine Reg.take 2 (v := undef) rfl (by kernel_rfl) (by kernel_rfl) (by kernel_rfl) (fun _ _ _ h => h) (Or.inr ⟨by rfl, rfl⟩) (by assumption) ?_))
  (try simp only [Act.put, List.setIfInBounds_toArray, List.set_cons_zero, List.set_cons_succ])
  (first | (refine Reg.take 4 (v := ?_) rfl (by kernel_rfl) (by kernel_rfl) (by kernel_rfl) (fun _ _ _ h => h) (Or.inl ⟨by rfl, ?_⟩) (by assumption) ?_; rotate_left; (focus ((intro W hSW); (try dsimp only at hSW); (try go_split_ands); go_simp; (try (with_reducible rfl)); done))) | (refine Reg.take 4 (v := undef) rfl (by kernel_rfl) (by kernel_rfl) (by kernel_rfl) (fun _ _ _ h => h) (Or.inr ⟨by rfl, rfl⟩) (by assumption) ?_))
  (try simp only [Act.put, List.setIfInBounds_toArray, List.set_cons_zero, List.set_cons_succ])
  (first | (refine Reg.take 5 (v := ?_) rfl (by kernel_rfl) (by kernel_rfl) (by kernel_rfl) (fun _ _ _ h => h) (Or.inl ⟨by rfl, ?_⟩) (by assumption) ?_; rotate_left; (focus ((intro W hSW); (try dsimp only at hSW); (try go_split_ands); go_simp; (try (with_reducible rfl)); done))) | (refine Reg.take 5 (v := undef) rfl (by kernel_rfl) (by kernel_rfl) (by kernel_rfl) (fun _ _ _ h => h) (Or.inr ⟨by rfl, rfl⟩) (by assumption) ?_))
  (try simp only [Act.put, List.setIfInBounds_toArray, List.set_cons_zero, List.set_cons_succ])
  (first | (refine Reg.take 6 (v := ?_) rfl (by kernel_rfl) (by kernel_rfl) (by kernel_rfl) (fun _ _ _ h => h) (Or.inl ⟨by rfl, ?_⟩) (by assumption) ?_; rotate_left; (focus ((intro W hSW); (try dsimp only at hSW); (try go_split_ands); go_simp; (try (with_reducible rfl)); done))) | (refine Reg.take 6 (v := undef) rfl (by kernel_rfl) (by kernel_rfl) (by kernel_rfl) (fun _ _ _ h => h) (Or.inr ⟨by rfl, rfl⟩) (by assumption) ?_))
  (try simp only [Act.put, List.setIfInBounds_toArray, List.set_cons_zero, List.set_cons_succ])
  refine Reg.step 3 rfl (by kernel_rfl) (by rfl) (fun K hK => ?_)
  go_simp
  refine (HL _ rfl).out.mono ?_
  rintro e w3 ⟨rfl, rfl⟩
  refine hK.out _ _ rfl (fun hHeldB => ?_)
  clear hK K
  (try simp only [Act.put, List.setIfInBounds_toArray, List.set_cons_zero, List.set_cons_succ])
  refine Reg.step 7 rfl (by kernel_rfl) (by rfl) (fun K hK => ?_)
  go_simp
  refine (HM _ rfl).out.mono ?_
  rintro e w4 ⟨rfl, rfl⟩
  refine hK.out _ _ rfl (fun hHeldC => ?_)
  clear hK K
  (try simp only [Act.put, List.setIfInBounds_toArray, List.set_cons_zero, List.set_cons_succ])
  (first | (refine Reg.take 8 (v := ?_) rfl (by kernel_rfl) (by kernel_rfl) (by kernel_rfl) (fun _ _ _ h => h) (Or.inl ⟨by rfl, ?_⟩) (by assumption) ?_; rotate_left; (focus ((intro W hSW); (try dsimp only at hSW); (try go_split_ands); go_simp; (try (with_reducible rfl)); done))) | (refine Reg.take 8 (v := undef) rfl (by kernel_rfl) (by kernel_rfl) (by kernel_rfl) (fun _ _ _ h => h) (Or.inr ⟨by rfl, rfl⟩) (by assumption) ?_))
  (try simp only [Act.put, List.setIfInBounds_toArray, List.set_cons_zero, List.set_cons_succ])
  (first | (refine Reg.take 9 (v := ?_) rfl (by kernel_rfl) (by kernel_rfl) (by kernel_rfl) (fun _ _ _ h => h) (Or.inl ⟨by rfl, ?_⟩) (by assumption) ?_; rotate_left; (focus ((intro W hSW); (try dsimp only at hSW); (try go_split_ands); go_simp; (try (with_reducible rfl)); done))) | (refine Reg.take 9 (v := undef) rfl (by kernel_rfl) (by kernel_rfl) (by kernel_rfl) (fun _ _ _ h => h) (Or.inr ⟨by rfl, rfl⟩) (by assumption) ?_))
  (try simp only [Act.put, List.setIfInBounds_toArray, List.set_cons_zero, List.set_cons_succ])
  refine wpAnyH_done (by kernel_rfl) ?_ _
  clear hHeld hHeldB hHeldC
  go_wp2_with fail
  go_ret2
  exact ⟨rfl, LD.out⟩
end Cac
end Go.Proofs.Ytfngebikihdogaa
