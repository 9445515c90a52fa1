/-
  SEVERAL TEXTS IN ONE FILE: CrcOnce, CrcApi, WireMath, CrcBurstMath.
-/
import Derived.Test.YtedandbkdjmfhaaGreatJ10
import Derived.Tactics
import Derived.Tactics2
import Derived.Defers
import Derived.Laws.Pointers
import Derived.Laws.LoneSync
import Derived.RegionTactic
import Derived.RegionCalls
import Derived.ChangeAlike
import Derived.Laws.NewBlocks
import Derived.Deep.QuietTactic
import Derived.BigQuiet
set_option linter.unusedSimpArgs false
set_option linter.unusedVariables false
/-
  crc's TABLE IS MADE ONCE: the walk of 'fill', and of sync.Once's slow and quick road round it, in one goroutine.
-/
namespace Go.Proofs.YtedandbkdjmfhaaGreat
open Go.RowKit
namespace Crc

/-- A block known whole: its cells, none frozen. -/
def Blk (w : World) (g : Nat) (cs : Array Value) : Prop := w.heap[g]? = some (.cells cs 131 (0, 0))
section
variable {w w' : World} {g : Nat} {cs : Array Value}
set_option maxRecDepth 100000 in
theorem Blk.lt (h : Blk w g cs) : g < w.heap.size := by
  rcases Nat.lt_or_ge g w.heap.size with hlt | hge
  · exact hlt
  · unfold Blk at h; rw [Array.getElem?_eq_none hge] at h; cases h
set_option maxRecDepth 100000 in
theorem Blk.cell (h : Blk w g cs) (i : Nat) : w.cell? ⟨g, i, none⟩ = cs[i]? := cell_of_row w g i cs _ (0, 0) h
set_option maxRecDepth 100000 in
theorem Blk.frozen (h : Blk w g cs) (i : Nat) : w.frozen? ⟨g, i, none⟩ = false := by
  unfold Blk at h
  simp [World.frozen?, h]
set_option maxRecDepth 100000 in
theorem Blk.drew (h : Blk w g cs) : Blk w.drew g cs := h
set_option maxRecDepth 100000 in
theorem Blk.set_ (h : Blk w g cs) (i : Nat) (u : Value) : Blk (w.setCell ⟨g, i, none⟩ u) g (cs.setIfInBounds i u) := by
  unfold Blk at h ⊢
  simp [World.setCell, Array.getElem?_modify, h]
end

/-- What fill leaves: its 256 words, all else as it was. -/
def Filled (g : Nat) (cs : Array Value) (w w' : World) : Prop :=
  ∃ cs', Blk w' g cs' ∧ cs'.size = 260 ∧ (∀ j, j < 4 → cs'[j]? = cs[j]?) ∧ (∀ i : Nat, i < 256 → cs'[4 + i]? = some (.int .u32 (v (shn 8 (BitVec.ofNat 32 i))))) ∧ Keep g w w'
/-- .. of which the first k are there. -/
def Filling (g : Nat) (cs : Array Value) (k : Nat) (w w' : World) : Prop :=
  ∃ cs', Blk w' g cs' ∧ cs'.size = 260 ∧ (∀ j, j < 4 → cs'[j]? = cs[j]?) ∧ (∀ i : Nat, i < k → cs'[4 + i]? = some (.int .u32 (v (shn 8 (BitVec.ofNat 32 i))))) ∧ Keep g w w'
set_option maxRecDepth 100000 in
theorem Filling.next {g : Nat} {cs : Array Value} {k : Nat} {w w' : World} (h : Filling g cs k w w') (hk : k < 256) :
    Filling g cs (k + 1) w (w'.setCell ⟨g, 4 + k, none⟩ (.int .u32 (v (shn 8 (BitVec.ofNat 32 k))))) := by
  obtain ⟨cs', hb, hs, h0, h1, hkeep⟩ := h
  refine ⟨_, hb.set_ (4 + k) _, by simp [hs], fun j hj => ?_, fun i hi => ?_, hkeep.setCell rfl _⟩
  · rw [Array.getElem?_setIfInBounds, if_neg (by omega)]; exact h0 j hj
  · rw [Array.getElem?_setIfInBounds]
    by_cases e : i = k
    · subst e; rw [if_pos rfl, if_pos (by omega)]
    · rw [if_neg (by omega)]; exact h1 i (by omega)

set_option maxRecDepth 100000 in
set_option maxHeartbeats 800000 in
theorem fill_any (g : Nat) (cs : Array Value) (w : World) (hb : Blk w g cs) (hs : cs.size = 260) :
    Calls Tryz.prog 83 #[.pointer (some ⟨g, 0, none⟩)] w fun e w' => e = .returned (.tuple #[]) ∧ Filled g cs w w' := by
  go_enter Tryz.func83, Tryz.ntmps83
  go_wp2
  go_loopw [4] (fun i wr => ∃ k : Nat, k ≤ 256 ∧ i = .int .i64 k ∧ Filling g cs k w wr) (fun i _ => 256 - (intOf i).toNat)
  case atStart => exact ⟨0, by omega, rfl, cs, hb, hs, fun _ _ => rfl, fun i hi => absurd hi (by omega), Keep.refl _ _⟩
  case round =>
    obtain ⟨k, hk, rfl, hF⟩ := hrel
    by_cases hlt : k < 256
    · have E : Hid ((k : Int) = v (BitVec.ofNat 32 k)) := by
        show _ = _
        unfold v; rw [BitVec.toNat_ofNat]; omega
      obtain ⟨cs', hb', hs', -, -, -⟩ := id hF
      have hc := hb'.cell (4 + k)
      rw [Array.getElem?_eq_getElem (by omega)] at hc
      have hz := hb'.frozen (4 + k)
      have HF := Lib.hid hF
      clear hF hb'
      generalize cs'[4 + k]'(by omega) = old at hc
      have hd : decide ((k : Int) < 256) = true := by simp; omega
      go_wp2
      go_loop [3, 9] (fun x i => ∃ (j : Nat) (y : BitVec 32), j ≤ 8 ∧ i = .int .i64 j ∧ x = .int .u32 (v y) ∧ shn (8 - j) y = shn 8 (BitVec.ofNat 32 k)) (fun _ i => 8 - (intOf i).toNat)
      case atStart => exact ⟨0, _, by omega, rfl, by rw [← E.out], rfl⟩
      case round =>
        obtain ⟨j, y, hj, rfl, rfl, hy⟩ := hrel
        have HY := Lib.hid hy
        clear hy
        by_cases hjl : j < 8
        · have S : Hid (shn (8 - (j + 1)) (sh y) = shn (8 - j) y) := by
            show _ = _
            rw [show 8 - j = (8 - (j + 1)) + 1 by omega]; rfl
          go_wp2_with (go_at_call 97; refine (shift_any _ _).mono ?_; rintro e w' ⟨rfl, rfl⟩)
          go_round
          case rel => exact ⟨j + 1, sh y, by omega, by go_num, rfl, by rw [S.out]; exact HY.out⟩
          case measure => simp [intOf]; omega
        · have : j = 8 := by omega
          subst this
          go_wp2
          go_roundw
          case rel => exact ⟨k + 1, by omega, by go_num, by rw [show y = shn 8 (BitVec.ofNat 32 k) from HY.out]; exact HF.out.next hlt⟩
          case measure => simp [intOf]; omega
    · have : k = 256 := by omega
      subst this
      have HF := Lib.hid hF
      clear hF
      go_wp2
      go_end0
      exact ⟨rfl, HF.out⟩

set_option maxRecDepth 100000 in
theorem disable (w : World) : (callFunc 107 #[]).run Tryz.prog w = .ok (.value (.tuple #[])) w := run_call_mark0 Tryz.func107 (by kernel_rfl) (by kernel_rfl) (by kernel_rfl) .disable (by kernel_rfl) w
set_option maxRecDepth 100000 in
theorem enable (w : World) : (callFunc 109 #[]).run Tryz.prog w = .ok (.value (.tuple #[])) w := run_call_mark0 Tryz.func109 (by kernel_rfl) (by kernel_rfl) (by kernel_rfl) .enable (by kernel_rfl) w
set_option maxRecDepth 100000 in
theorem acquire (a : Addr) (w : World) : (callFunc 110 #[.pointer (some a)]).run Tryz.prog w = .ok (.value (.tuple #[])) w := run_call_marked Tryz.func110 (by kernel_rfl) (by kernel_rfl) (by kernel_rfl) .acquire (by kernel_rfl) a w
set_option maxRecDepth 100000 in
theorem releaseMerge (a : Addr) (w : World) : (callFunc 112 #[.pointer (some a)]).run Tryz.prog w = .ok (.value (.tuple #[])) w := run_call_marked Tryz.func112 (by kernel_rfl) (by kernel_rfl) (by kernel_rfl) .releaseMerge (by kernel_rfl) a w

set_option maxRecDepth 100000 in
/-- '(*sync/atomic.Bool).Store(true)', entered as a deferred call: the cell holds 1. -/
theorem store_deferred (a : Addr) (x : Value) (u : FrameMode) (w : World) (hc : w.cell? a = some x) (hz : w.frozen? a = false) :
    CallsD Tryz.prog 102 #[.pointer (some a), .bool true] u w fun e u' w' => u' = u ∧ (e = .returned (.tuple #[]) ∧ w' = w.drew.setCell a (.int .u32 1)) := by
  have hc' : w.drew.cell? a = some x := by go_simp
  have hz' : w.drew.frozen? a = false := by go_simp
  have hst := run_call_store (P := Tryz.prog) Tryz.func105 (by kernel_rfl) (by kernel_rfl) (by kernel_rfl) (by kernel_rfl) (k := .u32) (y := 1) hc' hz'
  go_enter_d Tryz.func102, Tryz.ntmps102
  go_wp2
  go_region_calls
  all_goals (go_end0; exact ⟨rfl, rfl⟩)

set_option maxRecDepth 100000 in
/-- '(*sync.Mutex).Unlock', entered as a deferred call, the lock held and nobody waiting. -/
theorem unlock_deferred (a : Addr) (u : FrameMode) (w : World) (hc : w.cell? a = some (.int .i32 1)) (hz : w.frozen? a = false) :
    CallsD Tryz.prog 101 #[.pointer (some a)] u w fun e u' w' => u' = u ∧ (e = .returned (.tuple #[]) ∧ w' = w.setCell a (.int .i32 0)) := by
  have hd := disable
  have he := enable
  have hr := releaseMerge
  have hadd := run_call_add (P := Tryz.prog) Tryz.func113 (by kernel_rfl) (by kernel_rfl) (by kernel_rfl) .i32 (by kernel_rfl) (y := -1) (s := 0) hc hz (by simp [go_sem]; rfl)
  have hcv := run_convert_to_unsafe (P := Tryz.prog) (src := 185) (dst := 189) Tryz.underlying185 Tryz.underlying189 (by kernel_rfl) hc
  go_enter_d Tryz.func101, Tryz.ntmps101
  go_wp2
  go_end0
  go_wp2
  go_end0
  exact ⟨rfl, rfl⟩

set_option maxRecDepth 100000 in
/-- '(*sync.Mutex).Lock', the lock free. -/
theorem lock_free (a : Addr) (w : World) (hc : w.cell? a = some (.int .i32 0)) (hz : w.frozen? a = false) :
    Calls Tryz.prog 100 #[.pointer (some a)] w fun e w' => e = .returned (.tuple #[]) ∧ w' = w.setCell a (.int .i32 1) := by
  have hd := disable
  have he := enable
  have ha := acquire
  have hcas := run_call_cas_hit (P := Tryz.prog) Tryz.func108 (by kernel_rfl) (by kernel_rfl) (by kernel_rfl) .i32 (by kernel_rfl) (y := 1) hc hz
  have hc' : (w.setCell a (.int .i32 1)).cell? a = some (.int .i32 1) := World.cell?_setCell_same w a _ hc
  have hcv := run_convert_to_unsafe (P := Tryz.prog) (src := 185) (dst := 189) Tryz.underlying185 Tryz.underlying189 (by kernel_rfl) hc'
  go_enter Tryz.func100, Tryz.ntmps100
  go_wp2
  first | go_end0 | (simp only [Exit.inBlock, Exit.then]; refine bodyPost_ret (results_none rfl _ _ _) rfl ?_) | refine bodyPost_ret (results_none rfl _ _ _) rfl ?_
  go_wp2
  go_end0
  exact ⟨rfl, rfl⟩

/-- What the slow road leaves: the table is made; how often it was asked is as it was. -/
def Made (g : Nat) (n : Int) (w w' : World) : Prop := Tab w' g n true ∧ Keep g w w'

set_option maxRecDepth 100000 in
set_option maxHeartbeats 1600000 in
theorem slow_any (g : Nat) (n : Int) (w : World) (ht : Tab w g n false) :
    Calls Tryz.prog 96 #[.pointer (some ⟨g, 0, none⟩), .func (.func 83) #[.pointer (some ⟨g, 0, none⟩)] #[]] w fun e w' => e = .returned (.tuple #[]) ∧ Made g n w w' := by
  obtain ⟨cs, hb, hs, c0, c1, c3, -⟩ := ht
  have hb : Blk w g cs := hb
  have k0 := (hb.cell 0).trans c0
  have k1 := (hb.cell 1).trans c1
  simp only [Bool.false_eq_true, if_false] at k0 c0
  have f0 := hb.frozen 0
  have f1 := hb.frozen 1
  have hb1 := hb.set_ 1 (.int .i32 1)
  have hF := fill_any g _ _ hb1 (by simpa using hs)
  have hl := run_call_load (P := Tryz.prog) Tryz.func99 (by kernel_rfl) (by kernel_rfl) (by kernel_rfl) .u32 (by kernel_rfl) (w := w.setCell ⟨g, 1, none⟩ (.int .i32 1)) (a := ⟨g, 0, none⟩) (x := 0) ((World.cell?_setCell_other _ ⟨g, 1, none⟩ ⟨g, 0, none⟩ _ (by simp)).trans k0)
  have hnot : ∀ (x : Bool) (w : World), (Op.unary .not (.bool x)).run Tryz.prog w = .ok (.bool (!x)) w := fun _ _ => rfl
  have C0 := Lib.hid c0
  have C1 := Lib.hid c1
  have C3 := Lib.hid c3
  have HB := Lib.hid hb
  have HS := Lib.hid hs
  clear hb hb1 hs c0 c1 c3
  go_enter_defers Tryz.func96, Tryz.ntmps96
  go_wp2_with (first | (go_at_call 100; refine (lock_free ⟨g, 1, none⟩ _ (by go_simp) (by go_simp)).mono ?_; rintro e w' ⟨rfl, rfl⟩) | (go_at_call 83; refine hF.mono ?_; rintro e w2 ⟨rfl, hF2⟩; have HF2 := Lib.hid hF2; clear hF2 hF) | (go_at_call 95; go_in))
  obtain ⟨cs2, b2, s2, e2, t2, q2⟩ := HF2.out
  have d0 : cs2[0]? = some (.int .u32 0) := by rw [e2 0 (by omega), Array.getElem?_setIfInBounds, if_neg (by omega)]; exact C0.out
  have d1 : cs2[1]? = some (.int .i32 1) := by have := HS.out; rw [e2 1 (by omega), Array.getElem?_setIfInBounds, if_pos rfl, if_pos (by omega)]
  have d3 : cs2[3]? = some (.int .i64 n) := by rw [e2 3 (by omega), Array.getElem?_setIfInBounds, if_neg (by omega)]; exact C3.out
  refine leaves_cons (f := 102) (args := #[.pointer (some ⟨g, 0, none⟩), .bool true]) (by simp) (by simp [go_sem]) ?_
  refine (store_deferred ⟨g, 0, none⟩ (.int .u32 0) .returning _ ((b2.cell 0).trans d0) (b2.frozen 0)).mono ?_
  rintro e u' w'' ⟨rfl, rfl, rfl⟩
  have b3 := (b2.drew).set_ 0 (.int .u32 1)
  refine leaves_cons (f := 101) (args := #[.pointer (some ⟨g, 1, none⟩)]) (by simp [settle]) (by simp [go_sem]) ?_
  refine (unlock_deferred ⟨g, 1, none⟩ _ _ ((b3.cell 1).trans (by rw [Array.getElem?_setIfInBounds, if_neg (by omega)]; exact d1)) (b3.frozen 1)).mono ?_
  rintro e u' w'' ⟨rfl, rfl, rfl⟩
  have b4 := b3.set_ 1 (.int .i32 0)
  have T : Made g n w ((w2.drew.setCell ⟨g, 0, none⟩ (.int .u32 1)).setCell ⟨g, 1, none⟩ (.int .i32 0)) := by
    refine ⟨⟨_, b4, by simp [s2], ?_, ?_, ?_, fun _ i hi => ?_⟩, (((Keep.refl g w).setCell (p := ⟨g, 1, none⟩) rfl _).trans q2).drew.setCell rfl _ |>.setCell rfl _⟩
    · simp [s2]
    · simp [s2]
    · rw [Array.getElem?_setIfInBounds, if_neg (by omega), Array.getElem?_setIfInBounds, if_neg (by omega)]; exact d3
    · rw [Array.getElem?_setIfInBounds, if_neg (by omega), Array.getElem?_setIfInBounds, if_neg (by omega)]; exact t2 i hi
  simp [Leaves, settle, results, Tryz.results96]
  exact T

set_option maxRecDepth 100000 in
set_option maxHeartbeats 1600000 in
theorem do_first (g : Nat) (n : Int) (w : World) (ht : Tab w g n false) :
    Calls Tryz.prog 82 #[.pointer (some ⟨g, 0, none⟩), .func (.func 83) #[.pointer (some ⟨g, 0, none⟩)] #[]] w fun e w' => e = .returned (.tuple #[]) ∧ Made g n w w' := by
  have hS := slow_any g n w ht
  obtain ⟨cs, hb, hs, c0, c1, c3, -⟩ := ht
  have hb : Blk w g cs := hb
  have k0 := (hb.cell 0).trans c0
  simp only [Bool.false_eq_true, if_false] at k0
  have hl := run_call_load (P := Tryz.prog) Tryz.func99 (by kernel_rfl) (by kernel_rfl) (by kernel_rfl) .u32 (by kernel_rfl) k0
  have hnot : ∀ (x : Bool) (w : World), (Op.unary .not (.bool x)).run Tryz.prog w = .ok (.bool (!x)) w := fun _ _ => rfl
  clear hb hs c0 c1 c3
  go_enter Tryz.func82, Tryz.ntmps82
  go_wp2_with (first | (go_at_call 96; refine hS.mono ?_; rintro e w' ⟨rfl, hM⟩; have HM := Lib.hid hM; clear hM hS) | (go_at_call 95; go_in))
  go_end0
  exact ⟨rfl, HM.out⟩

set_option maxRecDepth 100000 in
theorem do_done (a : Addr) (fv : Value) (w : World) (h0 : w.cell? a = some (.int .u32 1)) :
    Calls Tryz.prog 82 #[.pointer (some a), fv] w fun e w' => e = .returned (.tuple #[]) ∧ w = w' := by
  have hl := run_call_load (P := Tryz.prog) Tryz.func99 (by kernel_rfl) (by kernel_rfl) (by kernel_rfl) .u32 (by kernel_rfl) h0
  have hnot : ∀ (x : Bool) (w : World), (Op.unary .not (.bool x)).run Tryz.prog w = .ok (.bool (!x)) w := fun _ _ => rfl
  go_enter Tryz.func82, Tryz.ntmps82
  go_wp2
  go_end0
  exact ⟨rfl, rfl⟩
end Crc
end Go.Proofs.YtedandbkdjmfhaaGreat
/-
  WALKS OVER crc'S CALLS: New, asked, follow, Sum, Update, Join, Used; the document's own Sum; and what the statements ask first (big, live).
-/
namespace Go.Proofs.YtedandbkdjmfhaaGreat
open Go.RowKit
namespace Crc

theorem Tab.bump {w : World} {g : Nat} {n : Int} {made : Bool} (h : Tab w g n made) (m : Int) : Tab (w.setCell ⟨g, 3, none⟩ (.int .i64 m)) g m made := by
  obtain ⟨cs, hb, hs, c0, c1, c3, ht⟩ := h
  have hb : Blk w g cs := hb
  refine ⟨_, hb.set_ 3 (.int .i64 m), by simp [hs], ?_, ?_, ?_, fun hm i hi => ?_⟩
  · rw [Array.getElem?_setIfInBounds, if_neg (by omega)]; exact c0
  · rw [Array.getElem?_setIfInBounds, if_neg (by omega)]; exact c1
  · rw [Array.getElem?_setIfInBounds, if_pos rfl, if_pos (by omega)]
  · rw [Array.getElem?_setIfInBounds, if_neg (by omega)]; exact ht hm i hi
theorem Tab.used {w : World} {g : Nat} {n : Int} {made : Bool} (h : Tab w g n made) : w.cell? ⟨g, 3, none⟩ = some (.int .i64 n) ∧ w.frozen? ⟨g, 3, none⟩ = false := by
  obtain ⟨cs, hb, hs, c0, c1, c3, ht⟩ := h
  have hb : Blk w g cs := hb
  exact ⟨(hb.cell 3).trans c3, hb.frozen 3⟩
theorem Tab.done {w : World} {g : Nat} {n : Int} (h : Tab w g n true) : w.cell? ⟨g, 0, none⟩ = some (.int .u32 1) := by
  obtain ⟨cs, hb, hs, c0, c1, c3, ht⟩ := h
  have hb : Blk w g cs := hb
  exact (hb.cell 0).trans c0
theorem Tab.word {w : World} {g : Nat} {n : Int} (h : Tab w g n true) (y : BitVec 8) : w.cell? ⟨g, 4 + (u y).toNat, none⟩ = some (.int .u32 (v (shn 8 (y.setWidth 32)))) := by
  obtain ⟨cs, hb, hs, c0, c1, c3, ht⟩ := h
  have hb : Blk w g cs := hb
  have hy := y.isLt
  have e : (u y).toNat = y.toNat := by unfold u; omega
  rw [e, hb.cell, ht rfl y.toNat (by omega)]
  have e2 : BitVec.ofNat 32 y.toNat = y.setWidth 32 := by
    apply BitVec.eq_of_toNat_eq
    rw [BitVec.toNat_ofNat, BitVec.toNat_setWidth]
  rw [e2]

set_option maxRecDepth 100000 in
set_option maxHeartbeats 800000 in
theorem asked_any (g : Nat) (n : Int) (made : Bool) (w : World) (ht : Tab w g n made) (h0 : 0 ≤ n) (h1 : n ≤ 4611686018427387904) :
    Calls Tryz.prog 61 #[.pointer (some ⟨g, 0, none⟩)] w fun e w' => e = .returned (.pointer (some ⟨g, 0, none⟩)) ∧ Made g (n + 1) w w' := by
  have hmf : ∀ (fn : Fn) (first cap : Array Value) (w : World), (Instr.makeFunc fn first cap).run Tryz.prog w = .ok (.func fn first cap) w := fun _ _ _ _ => rfl
  obtain ⟨hc, hz⟩ := ht.used
  have hsum : (Op.intArith .add .i64 n 1).run Tryz.prog w = .ok (.int .i64 (n + 1)) w := by
    have e := IntWalk.i64_in (n + 1) (by omega)
    simp [go_sem, e]
  have hadd := run_call_add (P := Tryz.prog) Tryz.func94 (by kernel_rfl) (by kernel_rfl) (by kernel_rfl) .i64 (by kernel_rfl) (y := 1) (s := n + 1) hc hz hsum
  have hT := ht.bump (n + 1)
  clear hsum hc hz
  cases made
  · have hD := do_first g (n + 1) _ hT
    clear hT ht
    go_enter Tryz.func61, Tryz.ntmps61
    go_wp2_with (first | (go_at_call 82; refine hD.mono ?_; rintro e w' ⟨rfl, hM⟩; have HM := Lib.hid hM; clear hM hD) | (go_at_call 81; go_in))
    go_ret
    exact ⟨rfl, HM.out.1, ((Keep.refl g w).setCell (p := ⟨g, 3, none⟩) rfl _).trans HM.out.2⟩
  · have hd := hT.done
    have HT := Lib.hid hT
    clear hT ht
    go_enter Tryz.func61, Tryz.ntmps61
    go_wp2_with (first | (go_at_call 82; refine (do_done _ _ _ hd).mono ?_; rintro e w' ⟨rfl, rfl⟩) | (go_at_call 81; go_in))
    go_ret
    exact ⟨rfl, HT.out, (Keep.refl g w).setCell (p := ⟨g, 3, none⟩) rfl _⟩

/-- A table's cells when it is new. -/
def tabZero : Array Value := #[.int .u32 0, .int .i32 0, .int .u32 0, .int .i64 0] ++ Array.replicate 256 (.int .u32 0)
theorem zeroTab (w : World) : (zeroValue 131).run Tryz.prog w = .ok (.agg tabZero) w := by kernel_rfl
set_option maxRecDepth 100000 in
set_option maxHeartbeats 800000 in
theorem new_any (w : World) :
    Calls Tryz.prog 37 #[] w fun e w' => e = .returned (.pointer (some ⟨w.heap.size, 0, none⟩)) ∧ Tab w' w.heap.size 0 false ∧ Keep w.heap.size w w' := by
  have hzt := zeroTab
  have T : Hid (Tab (w.alloc (.cells tabZero 131)) w.heap.size 0 false) :=
    ⟨tabZero, heap_alloc_new w _, rfl, rfl, rfl, rfl, fun h => by cases h⟩
  go_enter Tryz.func37, Tryz.ntmps37
  go_wp2
  go_ret
  exact ⟨rfl, T.out, (Keep.refl _ _).alloc _⟩

/-- A slice of byte slices reads as the pieces ls, outside block g. -/
def Pieces (w : World) (g : Nat) (A : Option Addr) (n : Nat) (ls : List (List (BitVec 8))) : Prop :=
  ls.length = n ∧ n ≤ 140737488351232 ∧ (0 < n → ∃ b o, A = some ⟨b, o, none⟩ ∧ b ≠ g ∧ ∀ i l, ls[i]? = some l → ∃ a m c, w.cell? ⟨b, o + i, none⟩ = some (.slice a m c) ∧ Bytes w g a m l)
theorem Pieces.keep {w w' : World} {g : Nat} {A : Option Addr} {n : Nat} {ls : List (List (BitVec 8))} (h : Pieces w g A n ls) (k : Keep g w w') : Pieces w' g A n ls := by
  refine ⟨h.1, h.2.1, fun h0 => ?_⟩
  obtain ⟨b, o, e, hx, hc⟩ := h.2.2 h0
  refine ⟨b, o, e, hx, fun i l hl => ?_⟩
  obtain ⟨a, m, c, h1, h2⟩ := hc i l hl
  exact ⟨a, m, c, k.cell h1 hx, h2.keep k⟩

set_option maxRecDepth 100000 in
set_option maxHeartbeats 800000 in
theorem follow_any (g : Nat) (q : Int) (c : BitVec 32) (A : Option Addr) (n cap : Nat) (l : List (BitVec 8)) (w : World) (ht : Tab w g q true) (h : Bytes w g A n l) :
    Calls Tryz.prog 62 #[.pointer (some ⟨g, 0, none⟩), .int .u32 (v c), .slice A n cap] w fun e w' => e = .returned (.int .u32 (v (goes c l))) ∧ w = w' := by
  have hc := h.at_
  have hT := ht.word
  obtain ⟨hl, hm, -⟩ := h
  have N1 := Lib.hid (not_v c)
  have hsg : IntKind.u32.signed = false := rfl
  have hmx : IntKind.u32.max = 4294967295 := by decide
  have G : Hid (goes c l = ~~~ run (~~~ c) (l.take n)) := by show _ = _; rw [List.take_of_length_le (by omega)]; rfl
  have HT := Lib.hid hT
  clear hT ht
  go_enter Tryz.func62, Tryz.ntmps62
  go_wp2
  go_loop [1, 13] (fun x i => ∃ k : Nat, k ≤ n ∧ i = .int .i64 k ∧ x = .int .u32 (v (run (~~~ c) (l.take k)))) (fun _ i => n - (intOf i).toNat)
  case atStart => exact ⟨0, by omega, rfl, by rw [N1.out]; rfl⟩
  case round =>
    obtain ⟨k, hk, rfl, rfl⟩ := hrel
    by_cases hlt : k < n
    · obtain ⟨xb, xo, rfl, hxg, hcell⟩ := hc (by omega)
      have hk' : k < l.length := by omega
      have h2 := hcell k _ (List.getElem?_eq_getElem hk')
      have R : Hid (run (~~~ c) (l.take (k + 1)) = step (run (~~~ c) (l.take k)) l[k]) := by
        show _ = _
        rw [List.take_succ_eq_append_getElem hk', run_append]; rfl
      have HL := Lib.hid hl
      clear hcell hl
      generalize run (~~~ c) (l.take k) = r at *
      generalize hb : l[k] = b at *
      clear hb
      have h3 := HT.out (r.setWidth 8 ^^^ b)
      have hu0 := u_nonneg (r.setWidth 8 ^^^ b)
      have hu1 := u_lt (r.setWidth 8 ^^^ b)
      have X : Hid (bits .xor .u32 (v r / 256) (v (shn 8 ((r.setWidth 8 ^^^ b).setWidth 32))) = v (step r b)) := by
        show _ = _; rw [shr8_v, xor_v, step_table]
      have x1 := low8_v' r
      have x2 := xor_u (r.setWidth 8) b
      generalize r.setWidth 8 ^^^ b = y at *
      generalize r.setWidth 8 = r8 at *
      generalize shn 8 (y.setWidth 32) = z at *
      go_wp2
      go_round
      case rel => exact ⟨k + 1, by omega, by go_num, by rw [R.out, X.out]⟩
      case measure => simp [intOf]; omega
    · have hkn : k = n := by omega
      have HK := Lib.hid hkn
      clear hkn
      have N2 := Lib.hid (not_v (run (~~~ c) (l.take k)))
      go_wp2
      go_ret
      exact ⟨ret_u32 (by rw [N2.out, G.out, HK.out]), rfl⟩

set_option maxRecDepth 100000 in
set_option maxHeartbeats 800000 in
/-- Sum: of pieces outside the table's block. -/
theorem sum_any (g : Nat) (q : Int) (made : Bool) (A : Option Addr) (n cap : Nat) (ls : List (List (BitVec 8))) (w : World) (ht : Tab w g q made) (h0 : 0 ≤ q) (h1 : q ≤ 4611686018427387904) (h : Pieces w g A n ls) :
    Calls Tryz.prog 40 #[.pointer (some ⟨g, 0, none⟩), .slice A n cap] w fun e w' => e = .returned (.int .u32 (v (sums ls))) ∧ Made g (q + 1) w w' := by
  have hA := asked_any g q made w ht h0 h1
  have HP := Lib.hid h
  have hm := h.2.1
  clear h ht h0 h1
  have V0 := Lib.hid v_zero
  go_enter Tryz.func40, Tryz.ntmps40
  go_wp2_with (go_at_call 61; refine hA.mono ?_; rintro e w1 ⟨rfl, hM⟩; have HM := Lib.hid hM; clear hM hA)
  have hP := HP.out.keep HM.out.2
  have hl := hP.1
  have hc := hP.2.2
  have HT := Lib.hid HM.out.1
  clear hP
  go_loop [5, 12] (fun x i => ∃ k : Nat, k ≤ n ∧ i = .int .i64 k ∧ x = .int .u32 (v (sums (ls.take k)))) (fun _ i => n - (intOf i).toNat)
  case atStart => exact ⟨0, by omega, rfl, by rw [← V0.out]; rfl⟩
  case round =>
    obtain ⟨k, hk, rfl, rfl⟩ := hrel
    by_cases hlt : k < n
    · obtain ⟨xb, xo, rfl, hxg, hcell⟩ := hc (by omega)
      have hk' : k < ls.length := by omega
      obtain ⟨a, m, c, h2, hB⟩ := hcell k _ (List.getElem?_eq_getElem hk')
      have R : Hid (sums (ls.take (k + 1)) = goes (sums (ls.take k)) ls[k]) := by
        show _ = _
        rw [List.take_succ_eq_append_getElem hk']; unfold sums; rw [List.foldl_append]; rfl
      have HB := Lib.hid hB
      have HL := Lib.hid hl
      clear hcell hl hB
      generalize ls[k] = l at *
      go_wp2_with (go_at_call 62; refine (follow_any _ _ _ _ _ _ _ _ HT.out HB.out).mono ?_; rintro e w' ⟨rfl, rfl⟩)
      go_round
      case rel => exact ⟨k + 1, by omega, by go_num, by rw [R.out]⟩
      case measure => simp [intOf]; omega
    · have hkn : ls.take k = ls := List.take_of_length_le (by omega)
      have HK := Lib.hid hkn
      clear hkn
      go_wp2
      go_ret
      exact ⟨ret_u32 (by rw [HK.out]), HM.out⟩





/-- What the statements' own test reckons: all pieces' lengths and one each, as an int goes round. -/
def bulk (ls : List (List (BitVec 8))) : Int := ls.foldl (fun z l => wrap64 (z + ((l.length : Int) + 1))) 0
end Crc
end Go.Proofs.YtedandbkdjmfhaaGreat
/-
  THE PLAIN MATHEMATICS OF wire: numbers as bytes, seven bits at a time; what is read back; vectors and messages; cut anywhere they are too short. Nothing of the program stands here.
-/
namespace Go.Proofs.YtedandbkdjmfhaaGreat
namespace Wire

abbrev B8 := BitVec 8

/-- A number's bytes. -/
def enc (n : Nat) : List B8 := if n < 128 then [BitVec.ofNat 8 n] else BitVec.ofNat 8 (n % 128 + 128) :: enc (n / 128)
termination_by n
decreasing_by omega
/-- What bytes say, whether or not they end. -/
def dec : List B8 → Nat
  | [] => 0
  | b :: r => b.toNat % 128 + 128 * dec r
/-- From place i on: how many bytes the number has, and what is wrong with it (0: nothing). -/
def scan : Nat → List B8 → Nat × Nat
  | _, [] => (0, 20)
  | i, b :: r => if (i = 9 ∧ 1 < b.toNat) ∨ (0 < i ∧ b.toNat = 0) then (0, 21) else if b.toNat < 128 then (i + 1, 0) else scan (i + 1) r

theorem enc_lt {n : Nat} (h : n < 128) : enc n = [BitVec.ofNat 8 n] := by rw [enc, if_pos h]
theorem enc_ge {n : Nat} (h : 128 ≤ n) : enc n = BitVec.ofNat 8 (n % 128 + 128) :: enc (n / 128) := by rw [enc, if_neg (by omega)]
theorem enc_pos (n : Nat) : 0 < (enc n).length := by
  by_cases h : n < 128
  · rw [enc_lt h]; simp
  · rw [enc_ge (by omega)]; simp
theorem dec_enc (n : Nat) : dec (enc n) = n := by
  induction n using Nat.strongRecOn with
  | _ n ih =>
    by_cases h : n < 128
    · rw [enc_lt h]; simp [dec]; omega
    · rw [enc_ge (by omega)]; simp only [dec]; rw [ih (n / 128) (by omega)]; simp; omega
theorem enc_inj {a b : Nat} (h : enc a = enc b) : a = b := by rw [← dec_enc a, ← dec_enc b, h]

theorem scan_enc (rest : List B8) : ∀ (n i : Nat), (i = 0 ∨ 0 < n) → n * 128 ^ i < 18446744073709551616 → scan i (enc n ++ rest) = (i + (enc n).length, 0) := by
  intro n
  induction n using Nat.strongRecOn with
  | _ n ih =>
    intro i hi hb
    have h9 : i = 9 → n < 2 := by
      rintro rfl
      have : (128 : Nat) ^ 9 = 9223372036854775808 := by decide
      rw [this] at hb
      omega
    by_cases h : n < 128
    · rw [enc_lt h]
      have e : (BitVec.ofNat 8 n).toNat = n := by rw [BitVec.toNat_ofNat]; omega
      simp only [List.cons_append, List.nil_append, scan, e, List.length_cons, List.length_nil]
      rw [if_neg (by rintro (⟨h1, h2⟩ | ⟨h1, h2⟩); · have := h9 h1; omega
                     · omega), if_pos h]
    · rw [enc_ge (by omega)]
      have e : (BitVec.ofNat 8 (n % 128 + 128)).toNat = n % 128 + 128 := by rw [BitVec.toNat_ofNat]; omega
      simp only [List.cons_append, scan, e, List.length_cons]
      have hnext : n / 128 * 128 ^ (i + 1) < 18446744073709551616 := by
        refine Nat.lt_of_le_of_lt ?_ hb
        rw [Nat.pow_succ, Nat.mul_comm (128 ^ i) 128, ← Nat.mul_assoc]
        exact Nat.mul_le_mul_right _ (Nat.div_mul_le_self n 128)
      rw [if_neg (by rintro (⟨h1, h2⟩ | ⟨h1, h2⟩); · have := h9 h1; omega
                     · omega), if_neg (by omega), ih (n / 128) (by omega) (i + 1) (.inr (by omega)) hnext]
      congr 1; omega

theorem scan_cut : ∀ (n i j : Nat), (i = 0 ∨ 0 < n) → n * 128 ^ i < 18446744073709551616 → j < (enc n).length → scan i ((enc n).take j) = (0, 20) := by
  intro n
  induction n using Nat.strongRecOn with
  | _ n ih =>
    intro i j hi hb hj
    have h9 : i = 9 → n < 2 := by
      rintro rfl
      have : (128 : Nat) ^ 9 = 9223372036854775808 := by decide
      rw [this] at hb
      omega
    by_cases h : n < 128
    · rw [enc_lt h] at hj ⊢
      obtain rfl : j = 0 := by simp at hj; omega
      rfl
    · rw [enc_ge (by omega)] at hj ⊢
      cases j with
      | zero => rfl
      | succ j =>
        have e : (BitVec.ofNat 8 (n % 128 + 128)).toNat = n % 128 + 128 := by rw [BitVec.toNat_ofNat]; omega
        simp only [List.take_succ_cons, scan, e]
        have hnext : n / 128 * 128 ^ (i + 1) < 18446744073709551616 := by
          refine Nat.lt_of_le_of_lt ?_ hb
          rw [Nat.pow_succ, Nat.mul_comm (128 ^ i) 128, ← Nat.mul_assoc]
          exact Nat.mul_le_mul_right _ (Nat.div_mul_le_self n 128)
        rw [if_neg (by rintro (⟨h1, h2⟩ | ⟨h1, h2⟩); · have := h9 h1; omega
                       · omega), if_neg (by omega)]
        exact ih (n / 128) (by omega) (i + 1) j (.inr (by omega)) hnext (by simpa using hj)

/-- What was read is the number's own bytes. -/
theorem scan_one : ∀ (l : List B8) (i k : Nat), i ≤ 9 → scan i l = (k, 0) → ∃ j, k = i + j + 1 ∧ j < l.length ∧ j + i ≤ 9 ∧ enc (dec (l.take (j + 1))) = l.take (j + 1) ∧ (0 < i → 0 < dec (l.take (j + 1))) ∧ dec (l.take (j + 1)) * 128 ^ i < 18446744073709551616 := by
  intro l
  induction l with
  | nil => intro i k hi h; simp [scan] at h
  | cons b r ih =>
    intro i k hi h
    have hbl := b.isLt
    have h128 : (128 : Nat) ^ 9 = 9223372036854775808 := by decide
    rw [scan] at h
    split at h
    · simp at h
    · rename_i hn
      split at h
      · rename_i hlt
        simp only [Prod.mk.injEq, and_true] at h
        refine ⟨0, by omega, by simp, by omega, ?_, ?_, ?_⟩
        · simp only [Nat.zero_add, List.take_succ_cons, List.take_zero, dec]
          rw [enc_lt (by omega)]
          congr 1
          apply BitVec.eq_of_toNat_eq
          rw [BitVec.toNat_ofNat]; omega
        · intro h0
          simp only [Nat.zero_add, List.take_succ_cons, List.take_zero, dec]
          have : ¬ b.toNat = 0 := fun e => hn (.inr ⟨h0, e⟩)
          omega
        · simp only [Nat.zero_add, List.take_succ_cons, List.take_zero, dec]
          have e : b.toNat % 128 + 128 * 0 = b.toNat := by omega
          rw [e]
          by_cases h9 : i = 9
          · subst h9
            have : ¬ 1 < b.toNat := fun e => hn (.inl ⟨rfl, e⟩)
            rw [h128]; omega
          · have hp : (128 : Nat) ^ i ≤ 128 ^ 8 := Nat.pow_le_pow_right (by omega) (by omega)
            have h8 : (128 : Nat) ^ 8 = 72057594037927936 := by decide
            rw [h8] at hp
            exact Nat.lt_of_le_of_lt (Nat.mul_le_mul (Nat.le_of_lt hlt) hp) (by decide)
      · rename_i hge
        have hi9 : i ≠ 9 := fun e => by
          have : ¬ 1 < b.toNat := fun e' => hn (.inl ⟨e, e'⟩)
          omega
        obtain ⟨j, hk, hj, h9, hen, hpos, hbd⟩ := ih (i + 1) k (by omega) h
        have hp := hpos (by omega)
        refine ⟨j + 1, by omega, by simpa using hj, by omega, ?_, ?_, ?_⟩
        · simp only [List.take_succ_cons, dec]
          rw [enc_ge (by omega)]
          have e1 : (b.toNat % 128 + 128 * dec (List.take (j + 1) r)) % 128 + 128 = b.toNat := by omega
          have e2 : (b.toNat % 128 + 128 * dec (List.take (j + 1) r)) / 128 = dec (List.take (j + 1) r) := by omega
          rw [e1, e2, hen]
          congr 1
          apply BitVec.eq_of_toNat_eq
          rw [BitVec.toNat_ofNat]; omega
        · intro _
          simp only [List.take_succ_cons, dec]
          omega
        · simp only [List.take_succ_cons, dec]
          have hle : (dec (List.take (j + 1) r) + 1) * 128 ^ (i + 1) ≤ 18446744073709551616 := by
            -- 2^64 is a multiple of 128^(i+1) here
            have hdvd : ∃ m, 18446744073709551616 = m * 128 ^ (i + 1) := by
              have : i + 1 = 1 ∨ i + 1 = 2 ∨ i + 1 = 3 ∨ i + 1 = 4 ∨ i + 1 = 5 ∨ i + 1 = 6 ∨ i + 1 = 7 ∨ i + 1 = 8 ∨ i + 1 = 9 := by omega
              rcases this with h | h | h | h | h | h | h | h | h <;> rw [h]
              · exact ⟨144115188075855872, by decide⟩
              · exact ⟨1125899906842624, by decide⟩
              · exact ⟨8796093022208, by decide⟩
              · exact ⟨68719476736, by decide⟩
              · exact ⟨536870912, by decide⟩
              · exact ⟨4194304, by decide⟩
              · exact ⟨32768, by decide⟩
              · exact ⟨256, by decide⟩
              · exact ⟨2, by decide⟩
            obtain ⟨m, hm⟩ := hdvd
            rw [hm] at hbd ⊢
            have hlt := Nat.lt_of_mul_lt_mul_right hbd
            exact Nat.mul_le_mul_right _ hlt
          rw [Nat.pow_succ] at hle
          have hpp : 0 < 128 ^ i := Nat.pow_pos (by omega)
          have : (b.toNat % 128 + 128 * dec (List.take (j + 1) r)) < (dec (List.take (j + 1) r) + 1) * 128 := by omega
          calc (b.toNat % 128 + 128 * dec (List.take (j + 1) r)) * 128 ^ i < ((dec (List.take (j + 1) r) + 1) * 128) * 128 ^ i := Nat.mul_lt_mul_of_pos_right this hpp
            _ = (dec (List.take (j + 1) r) + 1) * (128 ^ i * 128) := by rw [Nat.mul_assoc, Nat.mul_comm 128 (128 ^ i)]
            _ ≤ _ := hle

/-- A scan that fails tells no bytes. -/
theorem scan_bad : ∀ (l : List B8) (i k e : Nat), scan i l = (k, e) → e ≠ 0 → k = 0 ∧ (e = 20 ∨ e = 21) := by
  intro l
  induction l with
  | nil => intro i k e h he; simp [scan] at h; omega
  | cons b r ih =>
    intro i k e h he
    rw [scan] at h
    split at h
    · simp at h; omega
    · split at h
      · simp at h; omega
      · exact ih _ _ _ h he

theorem enc_len_mono : ∀ {b a : Nat}, a ≤ b → (enc a).length ≤ (enc b).length := by
  intro b
  induction b using Nat.strongRecOn with
  | _ b ih =>
    intro a h
    by_cases ha : a < 128
    · rw [enc_lt ha]; have := enc_pos b; simp; omega
    · rw [enc_ge (n := a) (by omega), enc_ge (n := b) (by omega)]
      have := ih (b / 128) (by omega) (a := a / 128) (by omega)
      simpa using this
theorem enc_len_le {n : Nat} (h : n < 18446744073709551616) : (enc n).length ≤ 10 := by
  have h1 := scan_enc [] n 0 (.inl rfl) (by simpa using h)
  obtain ⟨j, hk, hj, h9, -⟩ := scan_one _ 0 _ (by omega) h1
  simp at hj
  omega

/-! ### Take, as the program answers: the number, how many bytes, the error -/
def take1 (l : List B8) : Nat × Nat × Nat := let r := scan 0 l; if r.2 = 0 then (dec (l.take r.1), r.1, 0) else (0, 0, r.2)
/-- .. of a number that goes into 63 bits. -/
def int1 (l : List B8) : Nat × Nat × Nat := let r := take1 l; if r.2.2 = 0 then (if 9223372036854775807 < r.1 then (0, 0, 21) else r) else (0, 0, r.2.2)

theorem take1_enc (n : Nat) (rest : List B8) (h : n < 18446744073709551616) : take1 (enc n ++ rest) = (n, (enc n).length, 0) := by
  unfold take1
  rw [scan_enc rest n 0 (.inl rfl) (by simpa using h)]
  simp [dec_enc]
theorem int1_enc (n : Nat) (rest : List B8) (h : n < 9223372036854775808) : int1 (enc n ++ rest) = (n, (enc n).length, 0) := by
  unfold int1
  rw [take1_enc n rest (by omega)]
  simp only [if_pos]
  rw [if_neg (by omega)]
theorem take1_cut {n j : Nat} (h : n < 18446744073709551616) (hj : j < (enc n).length) : take1 ((enc n).take j) = (0, 0, 20) := by
  unfold take1
  rw [scan_cut n 0 j (.inl rfl) (by simpa using h) hj]
  simp
theorem int1_cut {n j : Nat} (h : n < 9223372036854775808) (hj : j < (enc n).length) : int1 ((enc n).take j) = (0, 0, 20) := by
  unfold int1
  rw [take1_cut (by omega) hj]
  simp
theorem take1_one {l : List B8} {n k : Nat} (h : take1 l = (n, k, 0)) : 1 ≤ k ∧ k ≤ l.length ∧ k ≤ 10 ∧ enc n = l.take k ∧ n < 18446744073709551616 ∧ n = dec (l.take k) := by
  unfold take1 at h
  rcases hs : scan 0 l with ⟨k', e⟩
  rw [hs] at h
  by_cases he : e = 0
  · subst he
    simp only [if_pos, Prod.mk.injEq, and_true] at h
    obtain ⟨rfl, rfl⟩ := h
    obtain ⟨j, hk, hj, h9, hen, -, hbd⟩ := scan_one l 0 k' (by omega) hs
    obtain rfl : k' = j + 1 := by omega
    exact ⟨by omega, by omega, by omega, hen, by simpa using hbd, rfl⟩
  · simp [he] at h
theorem take1_bad {l : List B8} {n k e : Nat} (h : take1 l = (n, k, e)) (he : e ≠ 0) : n = 0 ∧ k = 0 ∧ (e = 20 ∨ e = 21) ∧ scan 0 l = (0, e) := by
  unfold take1 at h
  rcases hs : scan 0 l with ⟨k', e'⟩
  rw [hs] at h
  by_cases h0 : e' = 0
  · simp [h0] at h; omega
  · simp only [if_neg h0, Prod.mk.injEq] at h
    obtain ⟨rfl, rfl, rfl⟩ := h
    have := scan_bad l 0 k' e' hs he
    exact ⟨rfl, rfl, this.2, by rw [this.1]⟩
theorem int1_one {l : List B8} {n k : Nat} (h : int1 l = (n, k, 0)) : take1 l = (n, k, 0) ∧ n < 9223372036854775808 := by
  unfold int1 at h
  rcases hs : take1 l with ⟨n', k', e'⟩
  rw [hs] at h
  by_cases h0 : e' = 0
  · subst h0
    simp only [if_pos] at h
    split at h
    · simp at h
    · simp only [Prod.mk.injEq, and_true] at h
      obtain ⟨rfl, rfl⟩ := h
      exact ⟨rfl, by omega⟩
  · simp [h0] at h
theorem int1_bad {l : List B8} {n k e : Nat} (h : int1 l = (n, k, e)) (he : e ≠ 0) : n = 0 ∧ k = 0 ∧ (e = 20 ∨ e = 21) := by
  unfold int1 at h
  rcases hs : take1 l with ⟨n', k', e'⟩
  rw [hs] at h
  by_cases h0 : e' = 0
  · subst h0
    simp only [if_pos] at h
    split at h
    · simp at h; omega
    · simp at h; omega
  · simp only [if_neg h0, Prod.mk.injEq] at h
    obtain ⟨rfl, rfl, rfl⟩ := h
    exact ⟨rfl, rfl, (take1_bad hs h0).2.2.1⟩
theorem take1_err (l : List B8) : (take1 l).2.2 = 0 ∨ (take1 l).2.2 = 20 ∨ (take1 l).2.2 = 21 := by
  rcases h : take1 l with ⟨n, k, e⟩
  by_cases he : e = 0
  · exact .inl he
  · exact .inr (take1_bad h he).2.2.1

/-! ### Numbers one behind the other -/
def encs (l : List Nat) : List B8 := l.flatMap enc
def ints : Nat → List B8 → List Nat × Nat × Nat
  | 0, _ => ([], 0, 0)
  | m + 1, b => let r := int1 b; if r.2.2 = 0 then (let s := ints m (b.drop r.2.1); if s.2.2 = 0 then (r.1 :: s.1, r.2.1 + s.2.1, 0) else ([], 0, s.2.2)) else ([], 0, r.2.2)

theorem encs_cons (n : Nat) (l : List Nat) : encs (n :: l) = enc n ++ encs l := by simp [encs]
theorem encs_nil : encs [] = [] := rfl
theorem encs_append (l r : List Nat) : encs (l ++ r) = encs l ++ encs r := by simp [encs]
theorem encs_len {l : List Nat} (h : ∀ n ∈ l, n < 18446744073709551616) : (encs l).length ≤ 10 * l.length := by
  induction l with
  | nil => simp [encs]
  | cons n l ih =>
    rw [encs_cons, List.length_append, List.length_cons]
    have := enc_len_le (h n (by simp))
    have := ih fun m hm => h m (by simp [hm])
    omega
theorem encs_len_ge (l : List Nat) : l.length ≤ (encs l).length := by
  induction l with
  | nil => simp
  | cons n l ih => rw [encs_cons, List.length_append, List.length_cons]; have := enc_pos n; omega

theorem ints_encs (rest : List B8) : ∀ (l : List Nat), (∀ n ∈ l, n < 9223372036854775808) → ints l.length (encs l ++ rest) = (l, (encs l).length, 0) := by
  intro l
  induction l with
  | nil => intro _; simp [ints, encs]
  | cons n l ih =>
    intro h
    rw [encs_cons, List.length_cons, ints, List.append_assoc, int1_enc n _ (h n (by simp))]
    simp only [if_pos, List.drop_left]
    rw [ih fun m hm => h m (by simp [hm])]
    simp
theorem ints_cut : ∀ (l : List Nat) (j : Nat), (∀ n ∈ l, n < 9223372036854775808) → j < (encs l).length → ints l.length ((encs l).take j) = ([], 0, 20) := by
  intro l
  induction l with
  | nil => intro j _ hj; simp [encs] at hj
  | cons n l ih =>
    intro j h hj
    rw [encs_cons] at hj ⊢
    rw [List.length_cons, ints]
    by_cases hc : j < (enc n).length
    · rw [List.take_append_of_le_length (by omega), int1_cut (h n (by simp)) hc]
      simp
    · have e : (enc n ++ encs l).take j = enc n ++ (encs l).take (j - (enc n).length) := by
        rw [List.take_append, List.take_of_length_le (by omega)]
      rw [e, int1_enc n _ (h n (by simp))]
      simp only [if_pos, List.drop_left]
      rw [ih (j - (enc n).length) (fun m hm => h m (by simp [hm])) (by rw [List.length_append] at hj; omega)]
      simp
theorem ints_one : ∀ (m : Nat) (b : List B8) (l : List Nat) (k : Nat), ints m b = (l, k, 0) → l.length = m ∧ k ≤ b.length ∧ encs l = b.take k ∧ ∀ n ∈ l, n < 9223372036854775808 := by
  intro m
  induction m with
  | zero => intro b l k h; simp [ints] at h; obtain ⟨rfl, rfl⟩ := h; simp [encs]
  | succ m ih =>
    intro b l k h
    rw [ints] at h
    rcases hr : int1 b with ⟨n, k1, e⟩
    rw [hr] at h
    by_cases he : e = 0
    · subst he
      simp only [if_pos] at h
      rcases hs : ints m (b.drop k1) with ⟨l', k2, e2⟩
      rw [hs] at h
      by_cases he2 : e2 = 0
      · subst he2
        simp only [if_pos, Prod.mk.injEq, and_true] at h
        obtain ⟨rfl, rfl⟩ := h
        obtain ⟨h1, hn⟩ := int1_one hr
        obtain ⟨t1, t2, t3, t4, t5, -⟩ := take1_one h1
        obtain ⟨a1, a2, a3, a4⟩ := ih _ _ _ hs
        rw [List.length_drop] at a2
        refine ⟨by simp [a1], by omega, ?_, ?_⟩
        · rw [encs_cons, t4, a3]
          rw [← List.take_append_drop k1 (b.take (k1 + k2))]
          congr 1
          · rw [List.take_take]; congr 1; omega
          · rw [List.drop_take]; congr 1; omega
        · intro x hx
          rcases List.mem_cons.1 hx with rfl | hx
          · exact hn
          · exact a4 x hx
      · simp [he2] at h
    · simp [he] at h
theorem ints_bad : ∀ (m : Nat) (b : List B8) (l : List Nat) (k e : Nat), ints m b = (l, k, e) → e ≠ 0 → l = [] ∧ k = 0 ∧ (e = 20 ∨ e = 21) := by
  intro m
  induction m with
  | zero => intro b l k e h he; simp [ints] at h; omega
  | succ m ih =>
    intro b l k e h he
    rw [ints] at h
    rcases hr : int1 b with ⟨n, k1, e1⟩
    rw [hr] at h
    by_cases he1 : e1 = 0
    · subst he1
      simp only [if_pos] at h
      rcases hs : ints m (b.drop k1) with ⟨l', k2, e2⟩
      rw [hs] at h
      by_cases he2 : e2 = 0
      · subst he2; simp at h; omega
      · simp only [if_neg he2, Prod.mk.injEq] at h
        obtain ⟨rfl, rfl, rfl⟩ := h
        exact ⟨rfl, rfl, (ih _ _ _ _ hs he2).2.2⟩
    · simp only [if_neg he1, Prod.mk.injEq] at h
      obtain ⟨rfl, rfl, rfl⟩ := h
      exact ⟨rfl, rfl, (int1_bad hr he1).2.2⟩

/-- Gone on with: what was read so far, and the rest. -/
def goOn (l : List Nat) (k : Nat) (r : List Nat × Nat × Nat) : List Nat × Nat × Nat := if r.2.2 = 0 then (l ++ r.1, k + r.2.1, 0) else ([], 0, r.2.2)
theorem goOn_start (r : List Nat × Nat × Nat) (h : r.2.2 ≠ 0 → r.1 = [] ∧ r.2.1 = 0) : goOn [] 0 r = r := by
  obtain ⟨a, b, c⟩ := r
  unfold goOn
  by_cases h0 : c = 0
  · simp [h0]
  · obtain ⟨h1, h2⟩ := h h0
    simp only at h1 h2
    subst h1 h2
    simp [h0]
theorem goOn_ints (m : Nat) (b : List B8) : goOn [] 0 (ints m b) = ints m b := by
  refine goOn_start _ fun h => ?_
  rcases hr : ints m b with ⟨l, k, e⟩
  rw [hr] at h
  obtain ⟨h1, h2, -⟩ := ints_bad m b l k e hr h
  exact ⟨h1, h2⟩
theorem goOn_step {l : List Nat} {k m : Nat} {b : List B8} {n j : Nat} (h : int1 (b.drop k) = (n, j, 0)) : goOn l k (ints (m + 1) (b.drop k)) = goOn (l ++ [n]) (k + j) (ints m (b.drop (k + j))) := by
  rw [ints, h]
  simp only [if_pos, List.drop_drop]
  unfold goOn
  rcases hs : ints m (b.drop (k + j)) with ⟨l', k2, e2⟩
  by_cases he : e2 = 0
  · subst he; simp [Nat.add_assoc]
  · simp [he]
theorem goOn_stop {l : List Nat} {k m : Nat} {b : List B8} {n j e : Nat} (h : int1 (b.drop k) = (n, j, e)) (he : e ≠ 0) : goOn l k (ints (m + 1) (b.drop k)) = ([], 0, e) := by
  rw [ints, h]
  simp [goOn, he]
theorem goOn_end (l : List Nat) (k : Nat) (b : List B8) : goOn l k (ints 0 b) = (l, k, 0) := by simp [ints, goOn]

/-! ### A vector -/
def encV (x : List B8) : List B8 := enc x.length ++ x
def vec1 (b : List B8) : List B8 × Nat × Nat :=
  let r := int1 b
  if r.2.2 = 0 then (if 65536 < r.1 then ([], 0, 2) else if b.length - r.2.1 < r.1 then ([], 0, 20) else ((b.drop r.2.1).take r.1, r.2.1 + r.1, 0)) else ([], 0, r.2.2)
theorem vec1_enc (x rest : List B8) (h : x.length ≤ 65536) : vec1 (encV x ++ rest) = (x, (encV x).length, 0) := by
  unfold vec1 encV
  rw [List.append_assoc, int1_enc _ _ (by omega)]
  simp only [if_pos, List.drop_left, List.take_left, List.length_append]
  rw [if_neg (by omega), if_neg (by omega)]
theorem vec1_cut (x : List B8) (j : Nat) (h : x.length ≤ 65536) (hj : j < (encV x).length) : vec1 ((encV x).take j) = ([], 0, 20) := by
  unfold vec1 encV at *
  by_cases hc : j < (enc x.length).length
  · rw [List.take_append_of_le_length (by omega), int1_cut (by omega) hc]
    simp
  · have e : (enc x.length ++ x).take j = enc x.length ++ x.take (j - (enc x.length).length) := by
      rw [List.take_append, List.take_of_length_le (by omega)]
    rw [e, int1_enc _ _ (by omega)]
    rw [List.length_append] at hj
    simp only [if_pos, List.length_append, List.length_take]
    rw [if_neg (by omega), if_pos (by omega)]
theorem vec1_one {b v : List B8} {k : Nat} (h : vec1 b = (v, k, 0)) : encV v = b.take k ∧ k ≤ b.length ∧ v.length ≤ 65536 ∧ 1 ≤ k := by
  unfold vec1 at h
  rcases hr : int1 b with ⟨n, k1, e⟩
  rw [hr] at h
  by_cases he : e = 0
  · subst he
    simp only [if_pos] at h
    split at h
    · simp at h
    · split at h
      · simp at h
      · rename_i h1 h2
        simp only [Prod.mk.injEq, and_true] at h
        obtain ⟨rfl, rfl⟩ := h
        obtain ⟨t1, t2, t3, t4, t5, -⟩ := take1_one (int1_one hr).1
        have hlen : ((b.drop k1).take n).length = n := by rw [List.length_take, List.length_drop]; omega
        refine ⟨?_, by omega, by omega, by omega⟩
        unfold encV
        rw [hlen, t4, ← List.take_append_drop k1 (b.take (k1 + n))]
        congr 1
        · rw [List.take_take]; congr 1; omega
        · rw [List.drop_take]; congr 1; omega
  · simp [he] at h
theorem vec1_bad {b v : List B8} {k e : Nat} (h : vec1 b = (v, k, e)) (he : e ≠ 0) : v = [] ∧ k = 0 ∧ (e = 2 ∨ e = 20 ∨ e = 21) := by
  unfold vec1 at h
  rcases hr : int1 b with ⟨n, k1, e1⟩
  rw [hr] at h
  by_cases he1 : e1 = 0
  · subst he1
    simp only [if_pos] at h
    split at h
    · simp at h; obtain ⟨rfl, rfl, rfl⟩ := h; simp
    · split at h
      · simp at h; obtain ⟨rfl, rfl, rfl⟩ := h; simp
      · simp at h; omega
  · simp only [if_neg he1, Prod.mk.injEq] at h
    obtain ⟨rfl, rfl, rfl⟩ := h
    have := (int1_bad hr he1).2.2
    exact ⟨rfl, rfl, by omega⟩
end Wire
end Go.Proofs.YtedandbkdjmfhaaGreat
/-
  PLAIN MATHEMATICS OF A BURST: a text in which at most 32 bits that stand together are turned, the first of them one, has another register behind it.
-/
namespace Go.Proofs.YtedandbkdjmfhaaGreat
namespace Crc

/-- One bit of a text is turned (of each byte the lowest first). -/
def flip1 (l : List (BitVec 8)) (k : Nat) : List (BitVec 8) := l.set (k / 8) (l.getD (k / 8) 0#8 ^^^ (1#8 <<< (k % 8)))
/-- Of the bits y from p on the first j, as far as the text goes. -/
def flips (l : List (BitVec 8)) (p : Nat) (y : BitVec 32) : Nat → List (BitVec 8)
  | 0 => l
  | j + 1 => if p + j < 8 * l.length ∧ y.getLsbD j = true then flip1 (flips l p y j) (p + j) else flips l p y j
theorem flip1_length (l : List (BitVec 8)) (k : Nat) : (flip1 l k).length = l.length := by simp [flip1]
theorem flips_length (l : List (BitVec 8)) (p : Nat) (y : BitVec 32) (j : Nat) : (flips l p y j).length = l.length := by
  induction j with
  | zero => rfl
  | succ j ih =>
    simp only [flips]
    split
    · rw [flip1_length, ih]
    · exact ih
theorem flip1_zip (l e : List (BitVec 8)) (k : Nat) (h : l.length = e.length) (hk : k < 8 * l.length) : flip1 (List.zipWith (· ^^^ ·) l e) k = List.zipWith (· ^^^ ·) l (flip1 e k) := by
  apply List.ext_getElem
  · simp [flip1]
  · intro i h1 h2
    have hi : i < l.length := by simp [flip1] at h1; omega
    have hd : k / 8 < l.length := by omega
    simp only [flip1, List.getElem_set, List.getElem_zipWith]
    by_cases e1 : k / 8 = i
    · subst e1
      have e2 : k / 8 < e.length := by omega
      simp only [if_true, List.getD, List.getElem?_eq_getElem hd, List.getElem?_eq_getElem e2, Option.getD_some, List.getElem?_zipWith]
      rw [BitVec.xor_assoc]
    · simp [e1]
theorem flips_zip (l e : List (BitVec 8)) (p : Nat) (y : BitVec 32) (h : l.length = e.length) : ∀ j, flips (List.zipWith (· ^^^ ·) l e) p y j = List.zipWith (· ^^^ ·) l (flips e p y j) := by
  intro j
  induction j with
  | zero => rfl
  | succ j ih =>
    simp only [flips]
    have e1 : (List.zipWith (· ^^^ ·) l e).length = e.length := by simp; omega
    rw [e1, ih]
    split
    · rename_i hc
      exact flip1_zip l _ _ (by rw [flips_length]; exact h) (by rw [h]; exact hc.1)
    · rfl
theorem zip_zeros (l : List (BitVec 8)) : List.zipWith (· ^^^ ·) l (List.replicate l.length 0#8) = l := by
  induction l with
  | nil => rfl
  | cons x l ih => simp [List.replicate_succ, ih]

/-- One bit alone, in a text of zeros. -/
theorem shn_one (r : Nat) (hr : r < 32) : shn r (1#32 <<< r) = 1#32 := by
  rw [shn_clear]
  · apply BitVec.eq_of_getLsbD_eq
    intro i hi
    simp only [BitVec.getLsbD_ushiftRight, BitVec.getLsbD_shiftLeft, BitVec.getLsbD_one]
    by_cases h : i = 0
    · subst h; simp [hr]
    · simp [h]
  · intro i hi
    simp only [BitVec.getLsbD_shiftLeft]
    simp [hi]
theorem run_unit (n k : Nat) (hk : k < 8 * n) : run 0#32 (flip1 (List.replicate n 0#8) k) = shn (8 * n - k) 1#32 := by
  have hd : k / 8 < n := by omega
  have e : flip1 (List.replicate n 0#8) k = List.replicate (k / 8) 0#8 ++ (1#8 <<< (k % 8)) :: List.replicate (n - k / 8 - 1) 0#8 := by
    unfold flip1
    apply List.ext_getElem
    · simp; omega
    · intro i h1 h2
      rw [List.getElem_set]
      by_cases h : k / 8 = i
      · subst h
        simp [List.getD, hd]
      · rw [if_neg h, List.getElem_replicate, List.getElem_append]
        split
        · simp
        · rename_i h3
          simp only [List.length_replicate] at h3
          rw [List.getElem_cons]
          have h4 : ¬ (i - (List.replicate (k / 8) 0#8).length = 0) := by simp; omega
          rw [dif_neg h4]
          simp
  rw [e, run_append, run_zeros, shn_zero]
  show run (step 0#32 (1#8 <<< (k % 8))) _ = _
  rw [run_zeros]
  unfold step
  rw [BitVec.zero_xor, ← shn_add]
  have hr : k % 8 < 8 := Nat.mod_lt _ (by omega)
  have e2 : (1#8 <<< (k % 8)).setWidth 32 = 1#32 <<< (k % 8) := by
    apply BitVec.eq_of_toNat_eq
    have h2 : 2 ^ (k % 8) < 2 ^ 8 := Nat.pow_lt_pow_right (by omega) hr
    have h3 : 2 ^ (k % 8) < 2 ^ 32 := Nat.lt_trans h2 (by decide)
    rw [BitVec.toNat_setWidth, BitVec.toNat_shiftLeft, BitVec.toNat_shiftLeft]
    simp only [Nat.shiftLeft_eq, BitVec.toNat_ofNat]
    rw [show 1 % 2 ^ 8 = 1 by decide, Nat.one_mul, Nat.mod_eq_of_lt h2]
  rw [e2]
  have e3 : 8 * (n - k / 8 - 1) + 8 = (8 * n - k) + k % 8 := by omega
  rw [e3, shn_add, shn_one _ (by omega)]

/-- The bits that were turned so far, as one word. -/
def turned (p N : Nat) (y : BitVec 32) : Nat → BitVec 32
  | 0 => 0#32
  | j + 1 => if p + j < N ∧ y.getLsbD j = true then turned p N y j ^^^ (1#32 <<< j) else turned p N y j
theorem run_turned (n p : Nat) (y : BitVec 32) (hp : p < 8 * n) : ∀ j, j ≤ 32 → run 0#32 (flips (List.replicate n 0#8) p y j) = shn (8 * n - p) (turned p (8 * n) y j) := by
  intro j
  induction j with
  | zero => intro _; simp only [flips, turned]; rw [run_zeros, shn_zero, shn_zero]
  | succ j ih =>
    intro hj
    simp only [flips, turned, List.length_replicate]
    split
    · rename_i hc
      have h1 := flip1_zip (flips (List.replicate n 0#8) p y j) (List.replicate n 0#8) (p + j) (by rw [flips_length]) (by rw [flips_length]; simpa using hc.1)
      have h2 := zip_zeros (flips (List.replicate n 0#8) p y j)
      rw [flips_length, List.length_replicate] at h2
      rw [h2] at h1
      rw [h1]
      have h3 := run_xor (flips (List.replicate n 0#8) p y j) (flip1 (List.replicate n 0#8) (p + j)) 0#32 0#32 (by rw [flips_length, flip1_length])
      rw [BitVec.xor_self] at h3
      rw [h3, ih (by omega), run_unit n (p + j) hc.1, shn_xor]
      congr 1
      have e : 8 * n - p = (8 * n - (p + j)) + j := by omega
      rw [e, shn_add, shn_one j (by omega)]
    · exact ih (by omega)
theorem turned_low (p N : Nat) (y : BitVec 32) (hp : p < N) (hy : y.getLsbD 0 = true) : ∀ j, j ≤ 32 → (turned p N y (j + 1)).getLsbD 0 = true := by
  intro j
  induction j with
  | zero => intro _; simp [turned, hp, hy]
  | succ j ih =>
    intro hj
    have h := ih (by omega)
    have e : turned p N y (j + 1 + 1) = if p + (j + 1) < N ∧ y.getLsbD (j + 1) = true then turned p N y (j + 1) ^^^ (1#32 <<< (j + 1)) else turned p N y (j + 1) := rfl
    rw [e]
    split
    · rw [BitVec.getLsbD_xor, h]
      simp
    · exact h
/-- THE BURST TELLS. -/
theorem goes_flips (l : List (BitVec 8)) (p : Nat) (y : BitVec 32) (hp : p < 8 * l.length) (hy : y.getLsbD 0 = true) : goes 0#32 l ≠ goes 0#32 (flips l p y 32) := by
  intro h
  unfold goes at h
  have h1 : run (~~~ 0#32) l = run (~~~ 0#32) (flips l p y 32) := by
    have := congrArg (fun x => ~~~ x) h
    simpa using this
  have h2 : flips l p y 32 = List.zipWith (· ^^^ ·) l (flips (List.replicate l.length 0#8) p y 32) := by
    have := flips_zip l (List.replicate l.length 0#8) p y (by simp) 32
    rw [zip_zeros] at this
    exact this
  have h3 := run_xor l (flips (List.replicate l.length 0#8) p y 32) (~~~ 0#32) 0#32 (by rw [flips_length]; simp)
  rw [BitVec.xor_zero, ← h2, ← h1] at h3
  have h4 : run 0#32 (flips (List.replicate l.length 0#8) p y 32) = 0#32 := by
    have := congrArg (fun x => run (~~~ 0#32) l ^^^ x) h3
    simp only [← BitVec.xor_assoc, BitVec.xor_self, BitVec.zero_xor] at this
    exact this.symm
  rw [run_turned l.length p y hp 32 (by omega)] at h4
  have h5 := shn_inj0 _ _ h4
  have h6 := turned_low p (8 * l.length) y hp hy 31 (by omega)
  rw [h5] at h6
  exact absurd h6 (by decide)
end Crc
end Go.Proofs.YtedandbkdjmfhaaGreat
