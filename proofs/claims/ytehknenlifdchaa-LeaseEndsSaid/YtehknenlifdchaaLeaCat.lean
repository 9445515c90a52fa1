/-
  WALKS: slices.Grow of nil and slices.Concat over leases; Revoke.
-/
import Derived.Test.YtehknenlifdchaaLeaIns
import Derived.Test.YtehknenlifdchaaLeaCheck
namespace Go.Proofs.Ytehknenlifdchaa
open Go.RowKit Mem
namespace Lea

theorem head0 (A : Option Addr) (n c : Nat) (w : World) : (Instr.slice 22 (.slice A n c) none (some (.int .i64 0)) none).run Try.prog w = .ok (.slice A 0 c) w := run_headL A n c 0 (by omega) w

set_option maxRecDepth 100000 in
set_option maxHeartbeats 800000 in
theorem growNil_any (n : Nat) (hn : n ≤ 2000000) (w : World) :
    Calls Try.prog 57 #[.slice none 0 0, .int .i64 n] w fun e w' => (∃ A c, e = .returned (.slice A 0 c) ∧ OwnsL w.heap.size w' (.slice A 0 c) 0 []) ∧ Below w.heap.size w w' := by
  rcases Nat.eq_zero_or_pos n with h0 | h0
  · subst h0
    go_enter Try.func57, Try.ntmps57
    go_wp2
    go_ret
    exact ⟨⟨_, _, rfl, OwnsL.nil _ _⟩, Below.refl _ _⟩
  · obtain ⟨i, hi, hz0, hz1, hz2⟩ := info_parts info_lease
    have hr := fun w => Lib.run_append_nil_zeros (P := Try.prog) w 22 3 22 43 i _ .i64 .i64 Try.underlying22 Try.underlying3 hi hz0 n h0 (by omega) (by omega) (by rw [hz2]; omega)
    have HR := Lib.hid hr
    have hsl := head0
    clear hr hi hz0 hz1 hz2
    go_enter Try.func57, Try.ntmps57
    go_wp2_with (at_builtin
                 refine Lib.wpList_append_run _ rfl (.tmp 20) (.tmp 21) _ _ rfl _ _ rfl rfl _ _ (HR.out _) ?_)
    go_ret
    refine ⟨⟨_, _, rfl, ⟨?_, rfl⟩⟩, (Below.refl _ w).drew.alloc (Nat.le_refl _) _⟩
    refine World.ownsRow_made w.drew _ _ (Nat.le_refl _) (grownCap_le_maxLen w n 0 _ (by unfold maxLen; omega)) ?_
    have := grownCap_ge w n 0 43
    rw [Array.size_append, size_zeroCells, size_zeroCells]
    show n * 4 + (grownCap w n 0 43 - n) * 4 = grownCap w n 0 43 * 4
    omega

/-- A piece: where it lies, how long it is, its capacity, what it reads as. -/
structure Piece where
  A : Option Addr
  n : Nat
  c : Nat
  l : List Lv
def Piece.val (p : Piece) : Value := .slice p.A p.n p.c
def total (ps : List Piece) : Nat := (ps.map Piece.n).sum
def joined (ps : List Piece) : List Lv := ps.flatMap Piece.l
theorem total_snoc (ps : List Piece) (p : Piece) : total (ps ++ [p]) = total ps + p.n := by simp [total]
theorem joined_snoc (ps : List Piece) (p : Piece) : joined (ps ++ [p]) = joined ps ++ p.l := by simp [joined]
theorem total_take_le (ps : List Piece) (k : Nat) : total (ps.take k) ≤ total ps := by
  conv => rhs; rw [← List.take_append_drop k ps]
  unfold total
  rw [List.map_append, List.sum_append]
  omega

set_option maxRecDepth 100000 in
set_option maxHeartbeats 1600000 in
theorem concat_any {A : Option Addr} {n c : Nat} {ps : List Piece} {w : World} (h : Row Piece.val w A n c ps) (hp : ∀ p ∈ ps, RowL w p.A p.n p.c p.l) (ht : total ps ≤ 2000000) :
    Calls Try.prog 49 #[.slice A n c] w fun e w' => (∃ B k d, e = .returned (.slice B k d) ∧ OwnsL w.heap.size w' (.slice B k d) k (joined ps)) ∧ Below w.heap.size w w' := by
  have HR := Lib.hid h
  have HP := Lib.hid hp
  have hb := h.big
  clear h hp
  go_enter Try.func49, Try.ntmps49
  go_wp2
  go_loop [3, 5, 11] (fun s _ i => ∃ k z : Nat, i = .int .i64 k ∧ s = .int .i64 z ∧ k ≤ n ∧ z ≤ total ps ∧ Hid (total (ps.take k) = z)) (fun _ _ i => n - (intOf i).toNat)
  case atStart => exact ⟨0, 0, rfl, rfl, by omega, by omega, rfl⟩
  case round =>
    obtain ⟨k, z, rfl, rfl, hk, hz, hT⟩ := hrel
    by_cases hlt : k < n
    · obtain ⟨p, hp⟩ := HR.out.get hlt
      obtain ⟨b, o, rfl, hcell⟩ := HR.out.cell hp
      have hcell' : w.cell? ⟨b, o + k, none⟩ = some (.slice p.A p.n p.c) := hcell
      have hzn : z + p.n ≤ total ps := by
        have h1 := total_take_le ps (k + 1)
        rw [List.take_add_one, hp] at h1
        have h2 := total_snoc (ps.take k) p
        have := hT.out
        simp only [Option.toList_some] at h1
        omega
      have HE := Lib.hid hp
      clear hcell hp
      go_wp2
      go_round
      case rel => exact ⟨k + 1, z + p.n, by go_num, by go_num, by omega, hzn, by show _ = _; rw [List.take_add_one, HE.out, Option.toList_some, total_snoc, hT.out]⟩
      case measure => simp [intOf]; omega
    · have hkn : ps.take k = ps := List.take_of_length_le (by have := HR.out.len; omega)
      have hz2 : total ps = z := by rw [← hT.out, hkn]
      have HZ := Lib.hid hz2
      have HG := Lib.hid (fun w => growNil_any z (by omega) w)
      clear hkn hz2 hT
      go_wp2_with (go_at_call 57; refine (HG.out _).mono ?_; rintro e w2 ⟨⟨G, gc, rfl, hG⟩, hb2⟩; have OG := Lib.hid hG; have B2 := Lib.hid hb2; clear hG hb2)
      go_loopw [6, 8, 27] (fun s _ i wr => ∃ (S : Option Addr) (j d q : Nat), s = .slice S j d ∧ i = .int .i64 q ∧ q ≤ n ∧ Hid (OwnsL w.heap.size wr (.slice S j d) j (joined (ps.take q)) ∧ Below w.heap.size w wr ∧ j = total (ps.take q))) (fun _ _ i _ => n - (intOf i).toNat)
      case atStart => exact ⟨G, 0, gc, 0, rfl, rfl, by omega, OG.out, B2.out, rfl⟩
      case round =>
        obtain ⟨S, j, d, q, rfl, rfl, hq, hO⟩ := hrel
        by_cases hlq : q < n
        · obtain ⟨p, hp⟩ := HR.out.get hlq
          obtain ⟨b, o, rfl, hcell⟩ := (HR.out.below hO.out.2.1).cell hp
          have hcell' : wr.cell? ⟨b, o + q, none⟩ = some (.slice p.A p.n p.c) := hcell
          have hzn : Hid (j + p.n ≤ total ps) := by
            have h1 := total_take_le ps (q + 1)
            rw [List.take_add_one, hp] at h1
            have h2 := total_snoc (ps.take q) p
            have := hO.out.2.2
            simp only [Option.toList_some] at h1
            show _ ≤ _
            omega
          have HE := Lib.hid hp
          have RP := Lib.hid ((HP.out p (List.mem_of_getElem? hp)).below hO.out.2.1)
          clear hcell hp
          go_wp2_with (at_builtin
                       refine wpList_append_l rfl (.tmp 31) (.tmp 32) rfl rfl w.heap.size (.slice S j d) j _ rfl hO.out.1 p.A p.n p.c p.l rfl RP.out (by have := hzn.out; omega) hO.out.2.1.size ?_
                       intro A3 c3 w3 hown3 hg3 h53
                       have O3 := Lib.hid hown3
                       have B3 := Lib.hid (below_row hO.out.1 hg3 hO.out.2.1.size)
                       clear hown3 hg3 h53)
          go_roundw
          case rel =>
            refine ⟨A3, j + p.n, c3, q + 1, rfl, by go_num, by omega, ?_, hO.out.2.1.trans B3.out, ?_⟩
            · rw [List.take_add_one, HE.out, Option.toList_some, joined_snoc]; exact O3.out
            · rw [List.take_add_one, HE.out, Option.toList_some, total_snoc, ← hO.out.2.2]
          case measure => simp [intOf]; omega
        · have hkn : ps.take q = ps := List.take_of_length_le (by have := HR.out.len; omega)
          have HK := Lib.hid hkn
          clear hkn
          go_wp2
          go_ret
          have h := hO.out
          rw [HK.out] at h
          exact ⟨⟨_, _, _, rfl, h.1⟩, h.2.1⟩

/-- Two pieces in one block. -/
theorem row_two {w : World} {A B : Option Addr} {n c m d : Nat} {a b : List Lv} {t : TypeId} {q : Nat} (h : Cells w q t #[.slice A n c, .slice B m d]) :
    Row Piece.val w (some ⟨q, 0, none⟩) 2 2 [⟨A, n, c, a⟩, ⟨B, m, d, b⟩] := by
  refine ⟨rfl, by omega, by omega, fun _ => ⟨_, _, rfl, Cells.lt h, fun i x hi => ?_⟩⟩
  rw [Nat.zero_add, Cells.cell h]
  match i, hi with
  | 0, hi => simp at hi; subst hi; rfl
  | 1, hi => simp at hi; subst hi; rfl
theorem RowS.head {w : World} {A : Option Addr} {n c : Nat} {l : List Lv} (h : RowL w A n c l) {k : Nat} (hk : k ≤ n) : RowL w A k c (l.take k) := by
  refine ⟨by rw [List.length_take, h.len]; omega, by have := h.cap; omega, by have := h.big; omega, fun h0 => ?_⟩
  obtain ⟨b, o, e, hb, hc⟩ := h.at_ (by omega)
  refine ⟨b, o, e, hb, fun i x hx j u hu => ?_⟩
  rw [List.getElem?_take] at hx
  split at hx
  · exact hc i x hx j u hu
  · cases hx
def tailA (A : Option Addr) (c k : Nat) : Option Addr := if c = k then A else A.map (·.add (k * 4))
theorem RowS.tail {w : World} {A : Option Addr} {n c : Nat} {l : List Lv} (h : RowL w A n c l) {k : Nat} (hk : k ≤ n) : RowL w (tailA A c k) (n - k) (c - k) (l.drop k) := by
  refine ⟨by rw [List.length_drop, h.len], by have := h.cap; omega, by have := h.big; omega, fun h0 => ?_⟩
  obtain ⟨b, o, e, hb, hc⟩ := h.at_ (by omega)
  refine ⟨b, o + k * 4, ?_, hb, fun i x hx j u hu => ?_⟩
  · unfold tailA
    rw [if_neg (by have := h.cap; omega), e]
    simp [Mem.add_none]
  · rw [List.getElem?_drop] at hx
    have := hc (k + i) x hx j u hu
    rwa [show o + (k + i) * 4 + j = o + k * 4 + i * 4 + j by omega] at this

set_option maxRecDepth 100000 in
set_option maxHeartbeats 6400000 in
theorem revoke_any {last now : Int} {A : Option Addr} {n c : Nat} {l : List Lv} {w : World} (key : Int) (h : RowL w A n c l) (hn : n ≤ 1000000) :
    Calls Try.prog 27 #[tv last now A n c, .int .i64 key] w (GaveT w (revokeP ⟨last, now, l⟩ key).1 [.int .i64 (revokeP ⟨last, now, l⟩ key).2]) := by
  have HR := Lib.hid h
  have hbig := h.big
  have hcap := h.cap
  have hlen := Lib.hid h.len
  have HC := fun w (h : RowL w A n c l) => Lib.hid (check_any (last := last) (now := now) h hn)
  have L1 : Hid (Below w.heap.size w ((w.alloc (.cells #[.int .i64 last, .int .i64 now, .slice A n c] 24)).alloc (.cells #[.int .i64 0, .int .i64 0, .slice none 0 0] 24))) := ((Below.refl w.heap.size w).alloc (Nat.le_refl _) _).alloc (by simp) _
  have B1 : Hid (TBox ((w.alloc (.cells #[.int .i64 last, .int .i64 now, .slice A n c] 24)).alloc (.cells #[.int .i64 0, .int .i64 0, .slice none 0 0] 24)) w.heap.size last now A n c) := heap_alloc2_old w _ _
  have N1 : Hid (TBox ((w.alloc (.cells #[.int .i64 last, .int .i64 now, .slice A n c] 24)).alloc (.cells #[.int .i64 0, .int .i64 0, .slice none 0 0] 24)) (w.heap.size + 1) 0 0 none 0 0) := heap_alloc2_new w _ _
  clear h
  have BAD : Hid (∀ (er : Int) w2, Below w.heap.size w w2 → GaveT w zT [.int .i64 er] (.returned (.tuple #[tv 0 0 none 0 0, .int .i64 er])) w2) := fun er w2 hb => ⟨none, 0, rfl, RowS.nil _ _ _, hb⟩
  unfold revokeP
  simp only
  rcases hok : okT ⟨last, now, l⟩
  · rw [hok] at HC
    go_enter Try.func27, Try.ntmps27
    go_upto_region 1 with fail
    generalize (w.alloc (.cells #[.int .i64 last, .int .i64 now, .slice A n c] 24)).alloc (.cells #[.int .i64 0, .int .i64 0, .slice none 0 0] 24) = w1 at *
    obtain ⟨m0, m1, m2⟩ := TBox.cells B1.out
    go_wp2_with fail
    refine (HC w1 (HR.out.below L1.out)).out.mono ?_
    rintro e w2 ⟨rfl, hb⟩
    have L2 := Lib.hid (L1.out.trans (hb.mono L1.out.size))
    have N2 := Lib.hid (Cells.below N1.out hb)
    clear hb
    obtain ⟨z0, z1, z2⟩ := TBox.cells N2.out
    obtain ⟨f0, f1, f2⟩ := TBox.frozen N2.out
    go_wp2_with fail
    refine bodyPost_ret_by (results_c1 rfl _ _ (w.heap.size + 1) _ _ _ _ rfl (Cells.set3 N2.out (.int .i64 0) (.int .i64 0) (.slice none 0 0)) Try.underlying24 rfl (by kernel_rfl)) rfl ?_
    exact BAD.out 1 _ (below3 L2.out (by omega) _ _ _)
  · rw [hok] at HC
    have hri := okT_rises hok
    have HF := fun w (h : RowL w A n c l) => Lib.hid (find_any (key := key) h hri)
    have HRI := Lib.hid hri
    clear hri
    rcases hh : heldB l key
    · rw [hh] at HF
      go_enter Try.func27, Try.ntmps27
      go_upto_region 1 with fail
      generalize (w.alloc (.cells #[.int .i64 last, .int .i64 now, .slice A n c] 24)).alloc (.cells #[.int .i64 0, .int .i64 0, .slice none 0 0] 24) = w1 at *
      obtain ⟨m0, m1, m2⟩ := TBox.cells B1.out
      go_wp2_with fail
      refine (HC w1 (HR.out.below L1.out)).out.mono ?_
      rintro e w2 ⟨rfl, hb⟩
      have L2 := Lib.hid (L1.out.trans (hb.mono L1.out.size))
      have N2 := Lib.hid (Cells.below N1.out hb)
      have B2 := Lib.hid (Cells.below B1.out hb)
      clear hb m0 m1 m2 B1 N1 L1 HC
      obtain ⟨m0, m1, m2⟩ := TBox.cells B2.out
      go_wp2_with fail
      refine (HF w2 (HR.out.below L2.out)).out.mono ?_
      rintro e w3 ⟨⟨k, rfl, hpl⟩, hb⟩
      have L3 := Lib.hid (L2.out.trans (hb.mono L2.out.size))
      have N3 := Lib.hid (Cells.below N2.out hb)
      clear hb hpl
      obtain ⟨z0, z1, z2⟩ := TBox.cells N3.out
      obtain ⟨f0, f1, f2⟩ := TBox.frozen N3.out
      go_wp2_with fail
      refine bodyPost_ret_by (results_c1 rfl _ _ (w.heap.size + 1) _ _ _ _ rfl (Cells.set3 N3.out (.int .i64 0) (.int .i64 0) (.slice none 0 0)) Try.underlying24 rfl (by kernel_rfl)) rfl ?_
      exact BAD.out 4 _ (below3 L3.out (by omega) _ _ _)
    · rw [hh] at HF
      have HH := Lib.hid hh
      go_enter Try.func27, Try.ntmps27
      go_upto_region 1 with fail
      generalize (w.alloc (.cells #[.int .i64 last, .int .i64 now, .slice A n c] 24)).alloc (.cells #[.int .i64 0, .int .i64 0, .slice none 0 0] 24) = w1 at *
      obtain ⟨m0, m1, m2⟩ := TBox.cells B1.out
      go_wp2_with fail
      refine (HC w1 (HR.out.below L1.out)).out.mono ?_
      rintro e w2 ⟨rfl, hb⟩
      have L2 := Lib.hid (L1.out.trans (hb.mono L1.out.size))
      have N2 := Lib.hid (Cells.below N1.out hb)
      have B2 := Lib.hid (Cells.below B1.out hb)
      clear hb m0 m1 m2 B1 N1 L1 HC
      obtain ⟨m0, m1, m2⟩ := TBox.cells B2.out
      go_upto_region 4 with fail
      refine (HF w2 (HR.out.below L2.out)).out.mono ?_
      rintro e w3 ⟨⟨k, rfl, hpl⟩, hb⟩
      have L3 := Lib.hid (L2.out.trans (hb.mono L2.out.size))
      have N3 := Lib.hid (Cells.below N2.out hb)
      have B3 := Lib.hid (Cells.below B2.out hb)
      clear hb m0 m1 m2 B2 N2 L2 HF
      obtain ⟨x, hx, hxk, hfx⟩ := place_held HRI.out hpl HH.out
      have hkl : k < n := by have := (List.getElem?_eq_some_iff.1 hx).1; have := hlen.out; omega
      have HBU := Lib.hid (place_but HRI.out hpl hx hxk)
      have R3 := Lib.hid (HR.out.below L3.out)
      clear hx hfx hpl hxk
      go_upto_region 6 with fail
      have L4 : Hid (Below w.heap.size w w3.drew) := L3.out.drew
      have N4 : Hid (TBox w3.drew (w.heap.size + 1) 0 0 none 0 0) := N3.out
      have B4 : Hid (TBox w3.drew w.heap.size last now A n c) := B3.out
      have R4 : Hid (RowL w3.drew A n c l) := RowS.drew R3.out
      have hs1 : ∀ w, (Instr.slice 22 (.slice A n c) none (some (.int .i64 (k : Int))) none).run Try.prog w = .ok (.slice A k c) w := fun w => run_headL A n c k (by omega) w
      have hs2 : ∀ w, (Instr.slice 22 (.slice A n c) (some (.int .i64 ((k : Int) + 1))) none none).run Try.prog w = .ok (.slice (tailA A c (k + 1)) (n - (k + 1)) (c - (k + 1))) w := fun w => run_tailL A n c (k + 1) (by omega) w
      have hwk : IntKind.i64.wrap ((k : Int) + 1) = (k : Int) + 1 := by rw [IntKind.wrap_i64]; omega
      have HCC := fun (W : World) q (hW : Below w3.drew.heap.size w3.drew W) (hq : Cells W q 22 #[.slice A k c, .slice (tailA A c (k + 1)) (n - (k + 1)) (c - (k + 1))]) =>
        Lib.hid (concat_any (row_two (a := l.take k) (b := l.drop (k + 1)) hq) (by intro p hp; simp at hp; rcases hp with rfl | rfl; exact RowS.head (R4.out.below hW) (show k ≤ n by omega); exact RowS.tail (R4.out.below hW) (show k + 1 ≤ n by omega)) (by simp [total]; omega))
      have hj : joined [⟨A, k, c, l.take k⟩, ⟨tailA A c (k + 1), n - (k + 1), c - (k + 1), l.drop (k + 1)⟩] = butK l key := by simp [joined, HBU.out]
      rw [hj] at HCC
      obtain ⟨m0, m1, m2⟩ := TBox.cells B4.out
      obtain ⟨f0, f1, f2⟩ := TBox.frozen B4.out
      have BELOW : Hid (∀ (o : Obj) W, Below (w3.drew.alloc o).heap.size (w3.drew.alloc o) W → Below w3.drew.heap.size w3.drew W) := fun o W hW => ((Below.refl _ w3.drew).alloc (Nat.le_refl _) o).trans (hW.mono (by simp))
      go_region_with (go_at_call 49; refine (HCC _ _ ((Below.refl _ w3.drew).alloc (Nat.le_refl _) _) (Cells.new _ _ _)).out.mono ?_; rintro e wx ⟨⟨X, j, d, rfl, hX⟩, hb⟩; have B5 := Lib.hid (Cells.below B4.out (BELOW.out _ _ hb)); have N5 := Lib.hid (Cells.below N4.out (BELOW.out _ _ hb)); have L5 := Lib.hid (L4.out.trans ((BELOW.out _ _ hb).mono L4.out.size)); have X5 := Lib.hid hX; clear hb hX; obtain ⟨q0, q1, q2⟩ := TBox.cells B5.out; obtain ⟨g0, g1, g2⟩ := TBox.frozen B5.out)
      all_goals
        have C6 : Hid (TBox (wx.setCell ⟨w.heap.size, 2, none⟩ (.slice X j d)) w.heap.size last now X j d) := Cells.set_ B5.out 2 (.slice X j d)
        have N6 : Hid (TBox (wx.setCell ⟨w.heap.size, 2, none⟩ (.slice X j d)) (w.heap.size + 1) 0 0 none 0 0) := Cells.set_other N5.out (by omega) 2 _
        have L6 : Hid (Below w.heap.size w (wx.setCell ⟨w.heap.size, 2, none⟩ (.slice X j d))) := L5.out.setCell (p := ⟨w.heap.size, 2, none⟩) (Nat.le_refl _) _
        have FIN : Hid (∀ W9, But (w.heap.size + 1) (wx.setCell ⟨w.heap.size, 2, none⟩ (.slice X j d)) W9 → GaveT w ⟨last, now, butK l key⟩ [.int .i64 0] (.returned (.tuple #[tv last now X j d, .int .i64 0])) W9) := by
          show ∀ _, _
          intro W9 hB
          have hlt : w.heap.size + 1 < w3.heap.size := Cells.lt N4.out
          have hb : w.heap.size + 1 < (w3.drew.alloc (.cells #[.slice A k c, .slice (tailA A c (k + 1)) (n - (k + 1)) (c - (k + 1))] 22)).heap.size := by simp; omega
          have h1 := (X5.out.setCell (p := ⟨w.heap.size, 2, none⟩) (by show w.heap.size < _; omega) (.slice X j d)).but hB hb
          have h2 := h1.2
          have hjn : j ≤ n := by rw [← h2, ← hlen.out]; exact List.length_filter_le _ _
          have h3 := h1.row (by omega)
          subst h2
          exact ⟨X, d, rfl, h3, L6.out.trans (hB.below L6.out.size (by omega))⟩
        clear q0 q1 q2 g0 g1 g2 m0 m1 m2 f0 f1 f2 X5 N5 B5 L5 R4 N4 B4 L4
        generalize wx.setCell ⟨w.heap.size, 2, none⟩ (.slice X j d) = w6 at *
        obtain ⟨m0, m1, m2⟩ := TBox.cells C6.out
        obtain ⟨z0, z1, z2⟩ := TBox.cells N6.out
        obtain ⟨f0, f1, f2⟩ := TBox.frozen N6.out
        go_wp2_with fail
        refine bodyPost_ret_by (results_c1 rfl _ _ (w.heap.size + 1) _ _ _ _ rfl (Cells.set3 N6.out (.int .i64 last) (.int .i64 now) (.slice X j d)) Try.underlying24 rfl (by kernel_rfl)) rfl ?_
        exact FIN.out _ (But.set3 _ _ _ _ _)
end Lea
end Go.Proofs.Ytehknenlifdchaa
