/-
  slices.Grow OF nil, AND slices.Concat, OVER BYTES.
-/
import Derived.Test.YtamahknnppjegaaWireNums
import Derived.Lib.AppendZeros
namespace Go.Proofs.Ytamahknnppjegaa
open Go.RowKit Mem
namespace Wire

theorem head0 (A : Option Addr) (n c : Nat) (w : World) : (Instr.slice 23 (.slice A n c) none (some (.int .i64 0)) none).run Try.prog w = .ok (.slice A 0 c) w := run_head A n c 0 (by omega) w

set_option maxRecDepth 100000 in
set_option maxHeartbeats 800000 in
theorem growNil_any (n : Nat) (hn : n ≤ 140737488351232) (w : World) :
    Calls Try.prog 72 #[.slice none 0 0, .int .i64 n] w (Gave cb 5 w.heap.size w ([] : List (BitVec 8))) := by
  rcases Nat.eq_zero_or_pos n with h0 | h0
  · subst h0
    go_enter Try.func72, Try.ntmps72
    go_wp2
    go_ret
    exact ⟨_, _, _, rfl, Owns.nil _ _ _ _, Below.refl _ _⟩
  · obtain ⟨i, hi, hz0, hz1, hz2⟩ := info_parts info_byte
    have hr := fun w => Lib.run_append_nil_zeros (P := Try.prog) w 23 3 23 5 i _ .i64 .i64 Try.underlying23 Try.underlying3 hi hz0 n h0 (by omega) (by omega) (by rw [hz2]; omega)
    have HR := Lib.hid hr
    have hsl := head0
    clear hr hi hz0 hz1 hz2
    go_enter Try.func72, Try.ntmps72
    go_wp2_with (at_builtin
                 refine Lib.wpList_append_run _ rfl (.tmp 20) (.tmp 21) _ _ rfl _ _ rfl rfl _ _ (HR.out _) ?_)
    go_ret
    refine ⟨_, _, _, rfl, ?_, (Below.refl _ w).drew.alloc (Nat.le_refl _) _⟩
    refine World.ownsRow_made w.drew _ _ (Nat.le_refl _) (grownCap_le_maxLen w n 0 _ (by unfold maxLen; omega)) ?_
    have := grownCap_ge w n 0 5
    rw [Array.size_append, size_zeroCells, size_zeroCells]
    show n * 1 + (grownCap w n 0 5 - n) * 1 = grownCap w n 0 5 * 1
    omega

/-- A piece: where it lies, how long it is, its capacity, what it reads as. -/
structure Piece where
  A : Option Addr
  n : Nat
  c : Nat
  l : List (BitVec 8)
def Piece.val (p : Piece) : Value := .slice p.A p.n p.c
theorem Piece.one (p : Piece) : (Piece.val p).oneCell' = true := rfl
def total (ps : List Piece) : Nat := (ps.map Piece.n).sum
def joined (ps : List Piece) : List (BitVec 8) := ps.flatMap Piece.l
theorem total_snoc (ps : List Piece) (p : Piece) : total (ps ++ [p]) = total ps + p.n := by simp [total]
theorem joined_snoc (ps : List Piece) (p : Piece) : joined (ps ++ [p]) = joined ps ++ p.l := by simp [joined]
theorem total_take_le (ps : List Piece) (k : Nat) : total (ps.take k) ≤ total ps := by
  conv => rhs; rw [← List.take_append_drop k ps]
  unfold total
  rw [List.map_append, List.sum_append]
  omega

set_option maxRecDepth 100000 in
set_option maxHeartbeats 1600000 in
theorem concat_any {A : Option Addr} {n c : Nat} {ps : List Piece} {w : World} (h : Row Piece.val w A n c ps) (hp : ∀ p ∈ ps, Row cb w p.A p.n p.c p.l) (ht : total ps ≤ 140737488351232) :
    Calls Try.prog 62 #[.slice A n c] w (Gave cb 5 w.heap.size w (joined ps)) := by
  have HR := Lib.hid h
  have HP := Lib.hid hp
  have hb := h.big
  have hjl : Hid ((joined ps).length = total ps) := by
    show _ = _
    clear HR HP h hb ht
    induction ps with
    | nil => rfl
    | cons p ps ih =>
      have h1 := (hp p (by simp)).len
      have h2 := ih fun q hq => hp q (by simp [hq])
      simp only [joined, total, List.flatMap_cons, List.length_append, List.map_cons, List.sum_cons] at *
      omega
  clear h hp
  go_enter Try.func62, Try.ntmps62
  go_wp2
  go_loop [3, 11] (fun s i => ∃ k z : Nat, i = .int .i64 k ∧ s = .int .i64 z ∧ k ≤ n ∧ z ≤ total ps ∧ Hid (total (ps.take k) = z)) (fun _ i => n - (intOf i).toNat)
  case atStart => exact ⟨0, 0, rfl, rfl, by omega, by omega, rfl⟩
  case round =>
    obtain ⟨k, z, rfl, rfl, hk, hz, hT⟩ := hrel
    by_cases hlt : k < n
    · obtain ⟨p, hp⟩ := HR.out.get hlt
      obtain ⟨b, o, rfl, hcell⟩ := HR.out.cell hp
      have hcell' : w.cell? ⟨b, o + k, none⟩ = some (.slice p.A p.n p.c) := hcell
      have hzn : z + p.n ≤ total ps := by
        have h1 := total_take_le ps (k + 1)
        rw [List.take_add_one, hp] at h1
        have h2 := total_snoc (ps.take k) p
        have := hT.out
        simp only [Option.toList_some] at h1
        omega
      have HE := Lib.hid hp
      have hpn := (HP.out p (List.mem_of_getElem? hp)).big
      clear hcell hp
      go_wp2
      go_round
      case rel => exact ⟨k + 1, z + p.n, by go_num, by go_num, by omega, hzn, by show _ = _; rw [List.take_add_one, HE.out, Option.toList_some, total_snoc, hT.out]⟩
      case measure => simp [intOf]; omega
    · have hkn : ps.take k = ps := List.take_of_length_le (by have := HR.out.len; omega)
      have hz2 : total ps = z := by rw [← hT.out, hkn]
      have HZ := Lib.hid hz2
      have HG := Lib.hid (fun w => growNil_any z (by omega) w)
      clear hkn hz2 hT
      go_wp2_with (go_at_call 72; refine (HG.out _).mono ?_; rintro e w2 ⟨G, g, gc, rfl, hG, hb2⟩; obtain rfl : g = 0 := hG.len.symm; have OG := Lib.hid hG; have B2 := Lib.hid hb2; clear hG hb2)
      go_loopw [6, 27] (fun s i wr => ∃ (S : Option Addr) (j d q : Nat), s = .slice S j d ∧ i = .int .i64 q ∧ q ≤ n ∧ Hid (Owns cb 5 w.heap.size wr (.slice S j d) j (joined (ps.take q)) ∧ Below w.heap.size w wr ∧ j = total (ps.take q))) (fun _ i _ => n - (intOf i).toNat)
      case atStart => exact ⟨G, 0, gc, 0, rfl, rfl, by omega, OG.out, B2.out, rfl⟩
      case round =>
        obtain ⟨S, j, d, q, rfl, rfl, hq, hO⟩ := hrel
        by_cases hlq : q < n
        · obtain ⟨p, hp⟩ := HR.out.get hlq
          obtain ⟨b, o, rfl, hcell⟩ := (HR.out.below hO.out.2.1).cell hp
          have hcell' : wr.cell? ⟨b, o + q, none⟩ = some (.slice p.A p.n p.c) := hcell
          have hzn : Hid (j + p.n ≤ total ps) := by
            have h1 := total_take_le ps (q + 1)
            rw [List.take_add_one, hp] at h1
            have h2 := total_snoc (ps.take q) p
            have := hO.out.2.2
            simp only [Option.toList_some] at h1
            show _ ≤ _
            omega
          have HE := Lib.hid hp
          have RP := Lib.hid ((HP.out p (List.mem_of_getElem? hp)).below hO.out.2.1)
          clear hcell hp
          go_wp2_with (at_builtin
                       refine wpList_append_row cb_one Try.underlying23 info_byte rfl rfl (.tmp 31) (.tmp 32) rfl rfl w.heap.size (.slice S j d) j _ rfl hO.out.1 p.A p.n p.c p.l rfl RP.out (by have := hzn.out; omega) (by have := hzn.out; omega) hO.out.2.1.size ?_
                       intro A3 c3 w3 hown3 hb3
                       have O3 := Lib.hid hown3
                       have B3 := Lib.hid hb3
                       clear hown3 hb3)
          go_roundw
          case rel =>
            refine ⟨A3, j + p.n, c3, q + 1, rfl, by go_num, by omega, ?_, hO.out.2.1.trans B3.out, ?_⟩
            · rw [List.take_add_one, HE.out, Option.toList_some, joined_snoc]; exact O3.out
            · rw [List.take_add_one, HE.out, Option.toList_some, total_snoc, ← hO.out.2.2]
          case measure => simp [intOf]; omega
        · have hkn : ps.take q = ps := List.take_of_length_le (by have := HR.out.len; omega)
          have HK := Lib.hid hkn
          clear hkn
          go_wp2
          go_ret
          have h := hO.out
          rw [HK.out] at h
          exact ⟨_, _, _, rfl, h.1, h.2.1⟩
end Wire
end Go.Proofs.Ytamahknnppjegaa
