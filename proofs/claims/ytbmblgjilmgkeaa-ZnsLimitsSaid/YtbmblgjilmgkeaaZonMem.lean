/-
  ZONES IN MEMORY; slices.Grow OF nil, slices.Concat AND bytes.Clone, OVER BYTES.
-/
import Derived.Test.YtbmblgjilmgkeaaZonMath
import Derived.Test.YtbmblgjilmgkeaaReg
import Derived.LoopTactic
import Derived.Deep.LoopGhost
import Derived.Deep.DeepCutAuto
import Derived.Lib.LazyBuf
import Derived.Lib.AppendZeros
import Derived.BigQuiet
import Derived.DeepKeys
import Derived.Deep.MidRow
namespace Go.Proofs.Ytbmblgjilmgkeaa
open Go.RowKit Mem
namespace Zon

/-- What a call gave: a row of the call's own. -/
def Gave {α : Type} (f : α → Value) (e : TypeId) (base : Nat) (w : World) (l : List α) (en : Ending) (w' : World) : Prop :=
  ∃ A k c, en = .returned (.slice A k c) ∧ Owns f e base w' (.slice A k c) k l ∧ Below base w w'
/-- A row and an error, as a call gave them. -/
def GaveE {α : Type} (f : α → Value) (e : TypeId) (base : Nat) (w : World) (l : List α) (er : Int) (en : Ending) (w' : World) : Prop :=
  ∃ A k c, en = .returned (.tuple #[.slice A k c, .int .i64 er]) ∧ Owns f e base w' (.slice A k c) k l ∧ Below base w w'
theorem gave_row {α : Type} {f : α → Value} {e : TypeId} {l : List α} {w' : World} {b : Nat} {X : Option Addr} {k c : Nat} (h : Owns f e b w' (.slice X k c) k l) (hn : l.length ≤ 140737488351232) : Row f w' X l.length c l ∧ k = l.length := by
  obtain rfl : l.length = k := h.len
  obtain ⟨A, c', e, hr⟩ := h.row hn
  injection e with e1 _ e3
  subst e1 e3
  exact ⟨hr, rfl⟩

theorem frozen_of {w : World} {g : Nat} {cs : Array Value} {t : TypeId} (h : w.heap[g]? = some (.cells cs t (0, 0))) (i : Nat) : w.frozen? ⟨g, i, none⟩ = false := by simp [World.frozen?, h]
theorem heap_set {w : World} {g : Nat} {cs : Array Value} {e : TypeId} (h : w.heap[g]? = some (.cells cs e (0, 0))) (i : Nat) (v : Value) : (w.setCell ⟨g, i, none⟩ v).heap[g]? = some (.cells (cs.setIfInBounds i v) e (0, 0)) := by
  simp [World.setCell, Array.getElem?_modify, h]
/-- A struct in a block of its own. -/
def Cells (w : World) (g : Nat) (t : TypeId) (cs : Array Value) : Prop := w.heap[g]? = some (.cells cs t (0, 0))
theorem Cells.below {w w' : World} {g : Nat} {t : TypeId} {cs : Array Value} (h : Cells w g t cs) (hb : Below w.heap.size w w') : Cells w' g t cs := (hb.block _ (Array.getElem?_eq_some_iff.1 h).1).trans h
theorem Cells.lt {w : World} {g : Nat} {t : TypeId} {cs : Array Value} (h : Cells w g t cs) : g < w.heap.size := (Array.getElem?_eq_some_iff.1 h).1
theorem Cells.cell {w : World} {g : Nat} {t : TypeId} {cs : Array Value} (h : Cells w g t cs) (i : Nat) : w.cell? ⟨g, i, none⟩ = cs[i]? := cell_of_row _ _ _ _ _ _ h
theorem Cells.frozen {w : World} {g : Nat} {t : TypeId} {cs : Array Value} (h : Cells w g t cs) (i : Nat) : w.frozen? ⟨g, i, none⟩ = false := frozen_of h i
theorem Cells.set_ {w : World} {g : Nat} {t : TypeId} {cs : Array Value} (h : Cells w g t cs) (i : Nat) (v : Value) : Cells (w.setCell ⟨g, i, none⟩ v) g t (cs.setIfInBounds i v) := heap_set h i v
theorem Cells.set_other {w : World} {g g' : Nat} {t : TypeId} {cs : Array Value} (h : Cells w g t cs) (hne : g' ≠ g) (i : Nat) (v : Value) : Cells (w.setCell ⟨g', i, none⟩ v) g t cs := (Below.heap_setCell _ _ _ _ (Ne.symm hne)).trans h
theorem Cells.new (w : World) (cs : Array Value) (t : TypeId) : Cells (w.alloc (.cells cs t)) w.heap.size t cs := heap_alloc_new w _

theorem head0 (A : Option Addr) (n c : Nat) (w : World) : (Instr.slice 34 (.slice A n c) none (some (.int .i64 0)) none).run Try.prog w = .ok (.slice A 0 c) w := run_head A n c 0 (by omega) w

set_option maxRecDepth 100000 in
set_option maxHeartbeats 800000 in
theorem growNil_any (n : Nat) (hn : n ≤ 140737488351232) (w : World) :
    Calls Try.prog 68 #[.slice none 0 0, .int .i64 n] w (Gave cb 5 w.heap.size w ([] : List (BitVec 8))) := by
  rcases Nat.eq_zero_or_pos n with h0 | h0
  · subst h0
    go_enter Try.func68, Try.ntmps68
    go_wp2
    go_ret
    exact ⟨_, _, _, rfl, Owns.nil _ _ _ _, Below.refl _ _⟩
  · obtain ⟨i, hi, hz0, hz1, hz2⟩ := info_parts info_byte
    have hr := fun w => Lib.run_append_nil_zeros (P := Try.prog) w 34 3 34 5 i _ .i64 .i64 Try.underlying34 Try.underlying3 hi hz0 n h0 (by omega) (by omega) (by rw [hz2]; omega)
    have HR := Lib.hid hr
    have hsl := head0
    clear hr hi hz0 hz1 hz2
    go_enter Try.func68, Try.ntmps68
    go_wp2_with (at_builtin
                 refine Lib.wpList_append_run _ rfl (.tmp 20) (.tmp 21) _ _ rfl _ _ rfl rfl _ _ (HR.out _) ?_)
    go_ret
    refine ⟨_, _, _, rfl, ?_, (Below.refl _ w).drew.alloc (Nat.le_refl _) _⟩
    refine World.ownsRow_made w.drew _ _ (Nat.le_refl _) (grownCap_le_maxLen w n 0 _ (by unfold maxLen; omega)) ?_
    have := grownCap_ge w n 0 5
    rw [Array.size_append, size_zeroCells, size_zeroCells]
    show n * 1 + (grownCap w n 0 5 - n) * 1 = grownCap w n 0 5 * 1
    omega

/-- A piece: where it lies, how long it is, its capacity, what it reads as. -/
structure Piece where
  A : Option Addr
  n : Nat
  c : Nat
  l : List (BitVec 8)
def Piece.val (p : Piece) : Value := .slice p.A p.n p.c
theorem Piece.one (p : Piece) : (Piece.val p).oneCell' = true := rfl
def total (ps : List Piece) : Nat := (ps.map Piece.n).sum
def joined (ps : List Piece) : List (BitVec 8) := ps.flatMap Piece.l
theorem total_snoc (ps : List Piece) (p : Piece) : total (ps ++ [p]) = total ps + p.n := by simp [total]
theorem joined_snoc (ps : List Piece) (p : Piece) : joined (ps ++ [p]) = joined ps ++ p.l := by simp [joined]
theorem total_take_le (ps : List Piece) (k : Nat) : total (ps.take k) ≤ total ps := by
  conv => rhs; rw [← List.take_append_drop k ps]
  unfold total
  rw [List.map_append, List.sum_append]
  omega

set_option maxRecDepth 100000 in
set_option maxHeartbeats 1600000 in
theorem concat_any {A : Option Addr} {n c : Nat} {ps : List Piece} {w : World} (h : Row Piece.val w A n c ps) (hp : ∀ p ∈ ps, Row cb w p.A p.n p.c p.l) (ht : total ps ≤ 140737488351232) :
    Calls Try.prog 64 #[.slice A n c] w (Gave cb 5 w.heap.size w (joined ps)) := by
  have HR := Lib.hid h
  have HP := Lib.hid hp
  have hb := h.big
  have hjl : Hid ((joined ps).length = total ps) := by
    show _ = _
    clear HR HP h hb ht
    induction ps with
    | nil => rfl
    | cons p ps ih =>
      have h1 := (hp p (by simp)).len
      have h2 := ih fun q hq => hp q (by simp [hq])
      simp only [joined, total, List.flatMap_cons, List.length_append, List.map_cons, List.sum_cons] at *
      omega
  clear h hp
  go_enter Try.func64, Try.ntmps64
  go_wp2
  go_loop [3, 11] (fun s i => ∃ k z : Nat, i = .int .i64 k ∧ s = .int .i64 z ∧ k ≤ n ∧ z ≤ total ps ∧ Hid (total (ps.take k) = z)) (fun _ i => n - (intOf i).toNat)
  case atStart => exact ⟨0, 0, rfl, rfl, by omega, by omega, rfl⟩
  case round =>
    obtain ⟨k, z, rfl, rfl, hk, hz, hT⟩ := hrel
    by_cases hlt : k < n
    · obtain ⟨p, hp⟩ := HR.out.get hlt
      obtain ⟨b, o, rfl, hcell⟩ := HR.out.cell hp
      have hcell' : w.cell? ⟨b, o + k, none⟩ = some (.slice p.A p.n p.c) := hcell
      have hzn : z + p.n ≤ total ps := by
        have h1 := total_take_le ps (k + 1)
        rw [List.take_add_one, hp] at h1
        have h2 := total_snoc (ps.take k) p
        have := hT.out
        simp only [Option.toList_some] at h1
        omega
      have HE := Lib.hid hp
      have hpn := (HP.out p (List.mem_of_getElem? hp)).big
      clear hcell hp
      go_wp2
      go_round
      case rel => exact ⟨k + 1, z + p.n, by go_num, by go_num, by omega, hzn, by show _ = _; rw [List.take_add_one, HE.out, Option.toList_some, total_snoc, hT.out]⟩
      case measure => simp [intOf]; omega
    · have hkn : ps.take k = ps := List.take_of_length_le (by have := HR.out.len; omega)
      have hz2 : total ps = z := by rw [← hT.out, hkn]
      have HZ := Lib.hid hz2
      have HG := Lib.hid (fun w => growNil_any z (by omega) w)
      clear hkn hz2 hT
      go_wp2_with (go_at_call 68; refine (HG.out _).mono ?_; rintro e w2 ⟨G, g, gc, rfl, hG, hb2⟩; obtain rfl : g = 0 := hG.len.symm; have OG := Lib.hid hG; have B2 := Lib.hid hb2; clear hG hb2)
      go_loopw [6, 27] (fun s i wr => ∃ (S : Option Addr) (j d q : Nat), s = .slice S j d ∧ i = .int .i64 q ∧ q ≤ n ∧ Hid (Owns cb 5 w.heap.size wr (.slice S j d) j (joined (ps.take q)) ∧ Below w.heap.size w wr ∧ j = total (ps.take q))) (fun _ i _ => n - (intOf i).toNat)
      case atStart => exact ⟨G, 0, gc, 0, rfl, rfl, by omega, OG.out, B2.out, rfl⟩
      case round =>
        obtain ⟨S, j, d, q, rfl, rfl, hq, hO⟩ := hrel
        by_cases hlq : q < n
        · obtain ⟨p, hp⟩ := HR.out.get hlq
          obtain ⟨b, o, rfl, hcell⟩ := (HR.out.below hO.out.2.1).cell hp
          have hcell' : wr.cell? ⟨b, o + q, none⟩ = some (.slice p.A p.n p.c) := hcell
          have hzn : Hid (j + p.n ≤ total ps) := by
            have h1 := total_take_le ps (q + 1)
            rw [List.take_add_one, hp] at h1
            have h2 := total_snoc (ps.take q) p
            have := hO.out.2.2
            simp only [Option.toList_some] at h1
            show _ ≤ _
            omega
          have HE := Lib.hid hp
          have RP := Lib.hid ((HP.out p (List.mem_of_getElem? hp)).below hO.out.2.1)
          clear hcell hp
          go_wp2_with (at_builtin
                       refine wpList_append_row cb_one Try.underlying34 info_byte rfl rfl (.tmp 31) (.tmp 32) rfl rfl w.heap.size (.slice S j d) j _ rfl hO.out.1 p.A p.n p.c p.l rfl RP.out (by have := hzn.out; omega) (by have := hzn.out; omega) hO.out.2.1.size ?_
                       intro A3 c3 w3 hown3 hb3
                       have O3 := Lib.hid hown3
                       have B3 := Lib.hid hb3
                       clear hown3 hb3)
          go_roundw
          case rel =>
            refine ⟨A3, j + p.n, c3, q + 1, rfl, by go_num, by omega, ?_, hO.out.2.1.trans B3.out, ?_⟩
            · rw [List.take_add_one, HE.out, Option.toList_some, joined_snoc]; exact O3.out
            · rw [List.take_add_one, HE.out, Option.toList_some, total_snoc, ← hO.out.2.2]
          case measure => simp [intOf]; omega
        · have hkn : ps.take q = ps := List.take_of_length_le (by have := HR.out.len; omega)
          have HK := Lib.hid hkn
          clear hkn
          go_wp2
          go_ret
          have h := hO.out
          rw [HK.out] at h
          exact ⟨_, _, _, rfl, h.1, h.2.1⟩

theorem run_eql_nil (w : World) (A : Option Addr) (n c : Nat) : (binOp .eql 34 (.slice A n c) (.slice none 0 0)).run Try.prog w = .ok (.bool A.isNone) w :=
  Go.run_eql_slice_nil w _ _ A n c Try.underlying34

set_option maxRecDepth 100000 in
theorem clone_any {A : Option Addr} {n c : Nat} {l : List B8} {w : World} (h : Row cb w A n c l) :
    Calls Try.prog 38 #[.slice A n c] w (Gave cb 5 w.heap.size w l) := by
  have HR := Lib.hid h
  have hb := h.big
  clear h
  have hq := fun w => run_eql_nil w A n c
  rcases A with _ | a
  · have hn : n = 0 := by
      rcases Nat.eq_zero_or_pos n with h0 | h0
      · exact h0
      · obtain ⟨b, o, e, -⟩ := HR.out.at_ h0
        cases e
    have hl : l = [] := List.eq_nil_of_length_eq_zero (by rw [HR.out.len, hn])
    subst hn hl
    have hd : (none : Option Addr).isNone = true := rfl
    rw [hd] at hq
    go_enter Try.func38, Try.ntmps38
    go_wp2
    go_ret
    exact ⟨_, _, _, rfl, Owns.nil _ _ _ _, Below.refl _ _⟩
  · have hd : (some a).isNone = false := rfl
    rw [hd] at hq
    go_enter Try.func38, Try.ntmps38
    go_wp2_with (at_builtin
                 refine wpList_append_row cb_one Try.underlying34 info_byte rfl rfl (.tmp 5) (.tmp 6) rfl rfl w.heap.size _ 0 [] rfl (Owns.made cb 5 w [] (by decide) (Nat.le_refl _)) (some a) n c l rfl (HR.out.alloc _) (by omega) (by omega) (by simp) ?_
                 intro A' c' w' hown' hb'
                 have O := Lib.hid (show Owns cb 5 w.heap.size w' (.slice A' n c') n l by simpa using hown')
                 have B := Lib.hid hb'
                 clear hown' hb')
    go_ret
    exact ⟨_, _, _, rfl, O.out, ((Below.refl _ w).alloc (Nat.le_refl _) _).trans B.out⟩

/-- Results of which the first is a struct in memory. -/
theorem results_zone_tmp {P : Program} {fn : Func} {p u : Tmp} {ty : TypeId} (h : fn.results = #[.cell p ty, .tmp u]) (tmps : Array Value) (w : World) (g : Nat) (t : TypeId) (cs : Array Value) (fr : Nat × Nat) (d : TypeDesc)
    (hp : tmps.getD p undef = .pointer (some ⟨g, 0, none⟩)) (hg : w.heap[g]? = some (.cells cs t fr))
    (hu : P.underlying ty = some d) (hd : (match d with | .struct _ | .array _ _ => true | _ => false) = true) (hi : (P.info? ty).map (·.size) = some cs.size) :
    (results fn tmps).run P w = .ok (.tuple #[.agg cs, tmps.getD u undef]) w := by
  have hp' : tmps[p]?.getD undef = .pointer (some ⟨g, 0, none⟩) := by simpa using hp
  simp [results, h, hp', asAddr, Result.andThen, run_loadVar_row w g t ty cs fr d hg hu hd hi]
theorem results_zone_tmp2 {P : Program} {fn : Func} {p u v : Tmp} {ty : TypeId} (h : fn.results = #[.cell p ty, .tmp u, .tmp v]) (tmps : Array Value) (w : World) (g : Nat) (t : TypeId) (cs : Array Value) (fr : Nat × Nat) (d : TypeDesc)
    (hp : tmps.getD p undef = .pointer (some ⟨g, 0, none⟩)) (hg : w.heap[g]? = some (.cells cs t fr))
    (hu : P.underlying ty = some d) (hd : (match d with | .struct _ | .array _ _ => true | _ => false) = true) (hi : (P.info? ty).map (·.size) = some cs.size) :
    (results fn tmps).run P w = .ok (.tuple #[.agg cs, tmps.getD u undef, tmps.getD v undef]) w := by
  have hp' : tmps[p]?.getD undef = .pointer (some ⟨g, 0, none⟩) := by simpa using hp
  simp [results, h, hp', asAddr, Result.andThen, run_loadVar_row w g t ty cs fr d hg hu hd hi]
end Zon
end Go.Proofs.Ytbmblgjilmgkeaa
