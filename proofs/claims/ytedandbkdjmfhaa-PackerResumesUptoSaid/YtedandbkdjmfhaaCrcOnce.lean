/-
  crc's TABLE IS MADE ONCE: the walk of 'fill', and of sync.Once's slow and quick road round it, in one goroutine.
-/
import Derived.Test.YtedandbkdjmfhaaCrcWalkA
import Derived.Tactics
import Derived.Tactics2
import Derived.Defers
import Derived.Laws.Pointers
import Derived.Laws.LoneSync
import Derived.RegionTactic
import Derived.RegionCalls
import Derived.ChangeAlike
import Derived.Laws.NewBlocks
namespace Go.Proofs.Ytedandbkdjmfhaa
open Go.RowKit
namespace Crc

/-- A block known whole: its cells, none frozen. -/
def Blk (w : World) (g : Nat) (cs : Array Value) : Prop := w.heap[g]? = some (.cells cs 107 (0, 0))
section
variable {w w' : World} {g : Nat} {cs : Array Value}
set_option maxRecDepth 100000 in
theorem Blk.lt (h : Blk w g cs) : g < w.heap.size := by
  rcases Nat.lt_or_ge g w.heap.size with hlt | hge
  · exact hlt
  · unfold Blk at h; rw [Array.getElem?_eq_none hge] at h; cases h
set_option maxRecDepth 100000 in
theorem Blk.cell (h : Blk w g cs) (i : Nat) : w.cell? ⟨g, i, none⟩ = cs[i]? := cell_of_row w g i cs _ (0, 0) h
set_option maxRecDepth 100000 in
theorem Blk.frozen (h : Blk w g cs) (i : Nat) : w.frozen? ⟨g, i, none⟩ = false := by
  unfold Blk at h
  simp [World.frozen?, h]
set_option maxRecDepth 100000 in
theorem Blk.drew (h : Blk w g cs) : Blk w.drew g cs := h
set_option maxRecDepth 100000 in
theorem Blk.set_ (h : Blk w g cs) (i : Nat) (u : Value) : Blk (w.setCell ⟨g, i, none⟩ u) g (cs.setIfInBounds i u) := by
  unfold Blk at h ⊢
  simp [World.setCell, Array.getElem?_modify, h]
end

/-- What fill leaves: its 256 words, all else as it was. -/
def Filled (g : Nat) (cs : Array Value) (w w' : World) : Prop :=
  ∃ cs', Blk w' g cs' ∧ cs'.size = 260 ∧ (∀ j, j < 4 → cs'[j]? = cs[j]?) ∧ (∀ i : Nat, i < 256 → cs'[4 + i]? = some (.int .u32 (v (shn 8 (BitVec.ofNat 32 i))))) ∧ Keep g w w'
/-- .. of which the first k are there. -/
def Filling (g : Nat) (cs : Array Value) (k : Nat) (w w' : World) : Prop :=
  ∃ cs', Blk w' g cs' ∧ cs'.size = 260 ∧ (∀ j, j < 4 → cs'[j]? = cs[j]?) ∧ (∀ i : Nat, i < k → cs'[4 + i]? = some (.int .u32 (v (shn 8 (BitVec.ofNat 32 i))))) ∧ Keep g w w'
set_option maxRecDepth 100000 in
theorem Filling.next {g : Nat} {cs : Array Value} {k : Nat} {w w' : World} (h : Filling g cs k w w') (hk : k < 256) :
    Filling g cs (k + 1) w (w'.setCell ⟨g, 4 + k, none⟩ (.int .u32 (v (shn 8 (BitVec.ofNat 32 k))))) := by
  obtain ⟨cs', hb, hs, h0, h1, hkeep⟩ := h
  refine ⟨_, hb.set_ (4 + k) _, by simp [hs], fun j hj => ?_, fun i hi => ?_, hkeep.setCell rfl _⟩
  · rw [Array.getElem?_setIfInBounds, if_neg (by omega)]; exact h0 j hj
  · rw [Array.getElem?_setIfInBounds]
    by_cases e : i = k
    · subst e; rw [if_pos rfl, if_pos (by omega)]
    · rw [if_neg (by omega)]; exact h1 i (by omega)

set_option maxRecDepth 100000 in
set_option maxHeartbeats 800000 in
theorem fill_any (g : Nat) (cs : Array Value) (w : World) (hb : Blk w g cs) (hs : cs.size = 260) :
    Calls Try.prog 60 #[.pointer (some ⟨g, 0, none⟩)] w fun e w' => e = .returned (.tuple #[]) ∧ Filled g cs w w' := by
  go_enter Try.func60, Try.ntmps60
  go_wp2
  go_loopw [4] (fun i wr => ∃ k : Nat, k ≤ 256 ∧ i = .int .i64 k ∧ Filling g cs k w wr) (fun i _ => 256 - (intOf i).toNat)
  case atStart => exact ⟨0, by omega, rfl, cs, hb, hs, fun _ _ => rfl, fun i hi => absurd hi (by omega), Keep.refl _ _⟩
  case round =>
    obtain ⟨k, hk, rfl, hF⟩ := hrel
    by_cases hlt : k < 256
    · have E : Hid ((k : Int) = v (BitVec.ofNat 32 k)) := by
        show _ = _
        unfold v; rw [BitVec.toNat_ofNat]; omega
      obtain ⟨cs', hb', hs', -, -, -⟩ := id hF
      have hc := hb'.cell (4 + k)
      rw [Array.getElem?_eq_getElem (by omega)] at hc
      have hz := hb'.frozen (4 + k)
      have HF := Lib.hid hF
      clear hF hb'
      generalize cs'[4 + k]'(by omega) = old at hc
      have hd : decide ((k : Int) < 256) = true := by simp; omega
      go_wp2
      go_loop [3, 9] (fun x i => ∃ (j : Nat) (y : BitVec 32), j ≤ 8 ∧ i = .int .i64 j ∧ x = .int .u32 (v y) ∧ shn (8 - j) y = shn 8 (BitVec.ofNat 32 k)) (fun _ i => 8 - (intOf i).toNat)
      case atStart => exact ⟨0, _, by omega, rfl, by rw [← E.out], rfl⟩
      case round =>
        obtain ⟨j, y, hj, rfl, rfl, hy⟩ := hrel
        have HY := Lib.hid hy
        clear hy
        by_cases hjl : j < 8
        · have S : Hid (shn (8 - (j + 1)) (sh y) = shn (8 - j) y) := by
            show _ = _
            rw [show 8 - j = (8 - (j + 1)) + 1 by omega]; rfl
          go_wp2_with (go_at_call 65; refine (shift_any _ _).mono ?_; rintro e w' ⟨rfl, rfl⟩)
          go_round
          case rel => exact ⟨j + 1, sh y, by omega, by go_num, rfl, by rw [S.out]; exact HY.out⟩
          case measure => simp [intOf]; omega
        · have : j = 8 := by omega
          subst this
          go_wp2
          go_roundw
          case rel => exact ⟨k + 1, by omega, by go_num, by rw [show y = shn 8 (BitVec.ofNat 32 k) from HY.out]; exact HF.out.next hlt⟩
          case measure => simp [intOf]; omega
    · have : k = 256 := by omega
      subst this
      have HF := Lib.hid hF
      clear hF
      go_wp2
      go_end0
      exact ⟨rfl, HF.out⟩

set_option maxRecDepth 100000 in
theorem disable (w : World) : (callFunc 74 #[]).run Try.prog w = .ok (.value (.tuple #[])) w := run_call_mark0 Try.func74 (by kernel_rfl) (by kernel_rfl) (by kernel_rfl) .disable (by kernel_rfl) w
set_option maxRecDepth 100000 in
theorem enable (w : World) : (callFunc 76 #[]).run Try.prog w = .ok (.value (.tuple #[])) w := run_call_mark0 Try.func76 (by kernel_rfl) (by kernel_rfl) (by kernel_rfl) .enable (by kernel_rfl) w
set_option maxRecDepth 100000 in
theorem acquire (a : Addr) (w : World) : (callFunc 77 #[.pointer (some a)]).run Try.prog w = .ok (.value (.tuple #[])) w := run_call_marked Try.func77 (by kernel_rfl) (by kernel_rfl) (by kernel_rfl) .acquire (by kernel_rfl) a w
set_option maxRecDepth 100000 in
theorem releaseMerge (a : Addr) (w : World) : (callFunc 79 #[.pointer (some a)]).run Try.prog w = .ok (.value (.tuple #[])) w := run_call_marked Try.func79 (by kernel_rfl) (by kernel_rfl) (by kernel_rfl) .releaseMerge (by kernel_rfl) a w

set_option maxRecDepth 100000 in
/-- '(*sync/atomic.Bool).Store(true)', entered as a deferred call: the cell holds 1. -/
theorem store_deferred (a : Addr) (x : Value) (u : FrameMode) (w : World) (hc : w.cell? a = some x) (hz : w.frozen? a = false) :
    CallsD Try.prog 69 #[.pointer (some a), .bool true] u w fun e u' w' => u' = u ∧ (e = .returned (.tuple #[]) ∧ w' = w.drew.setCell a (.int .u32 1)) := by
  have hc' : w.drew.cell? a = some x := by go_simp
  have hz' : w.drew.frozen? a = false := by go_simp
  have hst := run_call_store (P := Try.prog) Try.func72 (by kernel_rfl) (by kernel_rfl) (by kernel_rfl) (by kernel_rfl) (k := .u32) (y := 1) hc' hz'
  go_enter_d Try.func69, Try.ntmps69
  go_wp2
  go_region_calls
  all_goals (go_end0; exact ⟨rfl, rfl⟩)

set_option maxRecDepth 100000 in
/-- '(*sync.Mutex).Unlock', entered as a deferred call, the lock held and nobody waiting. -/
theorem unlock_deferred (a : Addr) (u : FrameMode) (w : World) (hc : w.cell? a = some (.int .i32 1)) (hz : w.frozen? a = false) :
    CallsD Try.prog 68 #[.pointer (some a)] u w fun e u' w' => u' = u ∧ (e = .returned (.tuple #[]) ∧ w' = w.setCell a (.int .i32 0)) := by
  have hd := disable
  have he := enable
  have hr := releaseMerge
  have hadd := run_call_add (P := Try.prog) Try.func80 (by kernel_rfl) (by kernel_rfl) (by kernel_rfl) .i32 (by kernel_rfl) (y := -1) (s := 0) hc hz (by simp [go_sem]; rfl)
  have hcv := run_convert_to_unsafe (P := Try.prog) (src := 141) (dst := 145) Try.underlying141 Try.underlying145 (by kernel_rfl) hc
  go_enter_d Try.func68, Try.ntmps68
  go_wp2
  go_end0
  go_wp2
  go_end0
  exact ⟨rfl, rfl⟩

set_option maxRecDepth 100000 in
/-- '(*sync.Mutex).Lock', the lock free. -/
theorem lock_free (a : Addr) (w : World) (hc : w.cell? a = some (.int .i32 0)) (hz : w.frozen? a = false) :
    Calls Try.prog 67 #[.pointer (some a)] w fun e w' => e = .returned (.tuple #[]) ∧ w' = w.setCell a (.int .i32 1) := by
  have hd := disable
  have he := enable
  have ha := acquire
  have hcas := run_call_cas_hit (P := Try.prog) Try.func75 (by kernel_rfl) (by kernel_rfl) (by kernel_rfl) .i32 (by kernel_rfl) (y := 1) hc hz
  have hc' : (w.setCell a (.int .i32 1)).cell? a = some (.int .i32 1) := World.cell?_setCell_same w a _ hc
  have hcv := run_convert_to_unsafe (P := Try.prog) (src := 141) (dst := 145) Try.underlying141 Try.underlying145 (by kernel_rfl) hc'
  go_enter Try.func67, Try.ntmps67
  go_wp2
  first | go_end0 | (simp only [Exit.inBlock, Exit.then]; refine bodyPost_ret (results_none rfl _ _ _) rfl ?_) | refine bodyPost_ret (results_none rfl _ _ _) rfl ?_
  go_wp2
  go_end0
  exact ⟨rfl, rfl⟩

/-- What the slow road leaves: the table is made; how often it was asked is as it was. -/
def Made (g : Nat) (n : Int) (w w' : World) : Prop := Tab w' g n true ∧ Keep g w w'

set_option maxRecDepth 100000 in
set_option maxHeartbeats 1600000 in
theorem slow_any (g : Nat) (n : Int) (w : World) (ht : Tab w g n false) :
    Calls Try.prog 64 #[.pointer (some ⟨g, 0, none⟩), .func (.func 60) #[.pointer (some ⟨g, 0, none⟩)] #[]] w fun e w' => e = .returned (.tuple #[]) ∧ Made g n w w' := by
  obtain ⟨cs, hb, hs, c0, c1, c3, -⟩ := ht
  have hb : Blk w g cs := hb
  have k0 := (hb.cell 0).trans c0
  have k1 := (hb.cell 1).trans c1
  simp only [Bool.false_eq_true, if_false] at k0 c0
  have f0 := hb.frozen 0
  have f1 := hb.frozen 1
  have hb1 := hb.set_ 1 (.int .i32 1)
  have hF := fill_any g _ _ hb1 (by simpa using hs)
  have hl := run_call_load (P := Try.prog) Try.func66 (by kernel_rfl) (by kernel_rfl) (by kernel_rfl) .u32 (by kernel_rfl) (w := w.setCell ⟨g, 1, none⟩ (.int .i32 1)) (a := ⟨g, 0, none⟩) (x := 0) ((World.cell?_setCell_other _ ⟨g, 1, none⟩ ⟨g, 0, none⟩ _ (by simp)).trans k0)
  have hnot : ∀ (x : Bool) (w : World), (Op.unary .not (.bool x)).run Try.prog w = .ok (.bool (!x)) w := fun _ _ => rfl
  have C0 := Lib.hid c0
  have C1 := Lib.hid c1
  have C3 := Lib.hid c3
  have HB := Lib.hid hb
  have HS := Lib.hid hs
  clear hb hb1 hs c0 c1 c3
  go_enter_defers Try.func64, Try.ntmps64
  go_wp2_with (first | (go_at_call 67; refine (lock_free ⟨g, 1, none⟩ _ (by go_simp) (by go_simp)).mono ?_; rintro e w' ⟨rfl, rfl⟩) | (go_at_call 60; refine hF.mono ?_; rintro e w2 ⟨rfl, hF2⟩; have HF2 := Lib.hid hF2; clear hF2 hF) | (go_at_call 63; go_in))
  obtain ⟨cs2, b2, s2, e2, t2, q2⟩ := HF2.out
  have d0 : cs2[0]? = some (.int .u32 0) := by rw [e2 0 (by omega), Array.getElem?_setIfInBounds, if_neg (by omega)]; exact C0.out
  have d1 : cs2[1]? = some (.int .i32 1) := by have := HS.out; rw [e2 1 (by omega), Array.getElem?_setIfInBounds, if_pos rfl, if_pos (by omega)]
  have d3 : cs2[3]? = some (.int .i64 n) := by rw [e2 3 (by omega), Array.getElem?_setIfInBounds, if_neg (by omega)]; exact C3.out
  refine leaves_cons (f := 69) (args := #[.pointer (some ⟨g, 0, none⟩), .bool true]) (by simp) (by simp [go_sem]) ?_
  refine (store_deferred ⟨g, 0, none⟩ (.int .u32 0) .returning _ ((b2.cell 0).trans d0) (b2.frozen 0)).mono ?_
  rintro e u' w'' ⟨rfl, rfl, rfl⟩
  have b3 := (b2.drew).set_ 0 (.int .u32 1)
  refine leaves_cons (f := 68) (args := #[.pointer (some ⟨g, 1, none⟩)]) (by simp [settle]) (by simp [go_sem]) ?_
  refine (unlock_deferred ⟨g, 1, none⟩ _ _ ((b3.cell 1).trans (by rw [Array.getElem?_setIfInBounds, if_neg (by omega)]; exact d1)) (b3.frozen 1)).mono ?_
  rintro e u' w'' ⟨rfl, rfl, rfl⟩
  have b4 := b3.set_ 1 (.int .i32 0)
  have T : Made g n w ((w2.drew.setCell ⟨g, 0, none⟩ (.int .u32 1)).setCell ⟨g, 1, none⟩ (.int .i32 0)) := by
    refine ⟨⟨_, b4, by simp [s2], ?_, ?_, ?_, fun _ i hi => ?_⟩, (((Keep.refl g w).setCell (p := ⟨g, 1, none⟩) rfl _).trans q2).drew.setCell rfl _ |>.setCell rfl _⟩
    · simp [s2]
    · simp [s2]
    · rw [Array.getElem?_setIfInBounds, if_neg (by omega), Array.getElem?_setIfInBounds, if_neg (by omega)]; exact d3
    · rw [Array.getElem?_setIfInBounds, if_neg (by omega), Array.getElem?_setIfInBounds, if_neg (by omega)]; exact t2 i hi
  simp [Leaves, settle, results, Try.results64]
  exact T

set_option maxRecDepth 100000 in
set_option maxHeartbeats 1600000 in
theorem do_first (g : Nat) (n : Int) (w : World) (ht : Tab w g n false) :
    Calls Try.prog 59 #[.pointer (some ⟨g, 0, none⟩), .func (.func 60) #[.pointer (some ⟨g, 0, none⟩)] #[]] w fun e w' => e = .returned (.tuple #[]) ∧ Made g n w w' := by
  have hS := slow_any g n w ht
  obtain ⟨cs, hb, hs, c0, c1, c3, -⟩ := ht
  have hb : Blk w g cs := hb
  have k0 := (hb.cell 0).trans c0
  simp only [Bool.false_eq_true, if_false] at k0
  have hl := run_call_load (P := Try.prog) Try.func66 (by kernel_rfl) (by kernel_rfl) (by kernel_rfl) .u32 (by kernel_rfl) k0
  have hnot : ∀ (x : Bool) (w : World), (Op.unary .not (.bool x)).run Try.prog w = .ok (.bool (!x)) w := fun _ _ => rfl
  clear hb hs c0 c1 c3
  go_enter Try.func59, Try.ntmps59
  go_wp2_with (first | (go_at_call 64; refine hS.mono ?_; rintro e w' ⟨rfl, hM⟩; have HM := Lib.hid hM; clear hM hS) | (go_at_call 63; go_in))
  go_end0
  exact ⟨rfl, HM.out⟩

set_option maxRecDepth 100000 in
theorem do_done (a : Addr) (fv : Value) (w : World) (h0 : w.cell? a = some (.int .u32 1)) :
    Calls Try.prog 59 #[.pointer (some a), fv] w fun e w' => e = .returned (.tuple #[]) ∧ w = w' := by
  have hl := run_call_load (P := Try.prog) Try.func66 (by kernel_rfl) (by kernel_rfl) (by kernel_rfl) .u32 (by kernel_rfl) h0
  have hnot : ∀ (x : Bool) (w : World), (Op.unary .not (.bool x)).run Try.prog w = .ok (.bool (!x)) w := fun _ _ => rfl
  go_enter Try.func59, Try.ntmps59
  go_wp2
  go_end0
  exact ⟨rfl, rfl⟩
end Crc
end Go.Proofs.Ytedandbkdjmfhaa
