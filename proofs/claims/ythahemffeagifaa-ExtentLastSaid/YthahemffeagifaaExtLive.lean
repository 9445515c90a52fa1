/-
  WALKS: which lists are short enough; the chapter's example.
-/
import Derived.Test.YthahemffeagifaaExtPut
namespace Go.Proofs.Ythahemffeagifaa
open Go.RowKit Mem
namespace Ext
theorem allP_snoc {ps : List Piece} {k : Nat} {p : Piece} (hp : ps[k]? = some p) (q : Piece → Bool) : (ps.take (k + 1)).all q = ((ps.take k).all q && q p) := by
  rw [List.take_add_one, hp, List.all_append]; simp
set_option maxRecDepth 100000 in
set_option maxHeartbeats 3200000 in
theorem few_any {A : Option Addr} {n c : Nat} {ps : List Piece} {w : World} (h : Row Piece.val w A n c ps) :
    Calls Try.prog 9 #[.slice A n c] w fun e w' => e = .returned (.bool (ps.all fun p => decide (p.n ≤ 300))) ∧ w' = w := by
  have HR := Lib.hid h
  have hbig := h.big
  have hlen := Lib.hid h.len
  clear h
  go_enter Try.func9, Try.ntmps9
  go_wp2
  go_loop [4, 7] (fun _ i => ∃ k : Nat, i = .int .i64 k ∧ k ≤ n ∧ Hid ((ps.take k).all (fun p => decide (p.n ≤ 300)) = true)) (fun _ i => n - (intOf i).toNat)
  case atStart => exact ⟨0, rfl, by omega, rfl⟩
  case round =>
    obtain ⟨k, rfl, hk, hT⟩ := hrel
    by_cases hlt : k < n
    · obtain ⟨p, hp⟩ := HR.out.get hlt
      obtain ⟨b, o, rfl, hcell⟩ := HR.out.cell hp
      have hcell' : w.cell? ⟨b, o + k, none⟩ = some (.slice p.A p.n p.c) := hcell
      have HS := Lib.hid (allP_snoc hp (fun p => decide (p.n ≤ 300)))
      have HP := Lib.hid hp
      have hk0 : (0 : Int) ≤ (k : Int) := by omega
      have hkn : (k : Int) < (n : Int) := by omega
      clear hcell hp
      rcases e1 : decide ((300 : Int) < (p.n : Int))
      · have HN : Hid ((ps.take (k + 1)).all (fun p => decide (p.n ≤ 300)) = true) := by
          show _ = _
          rw [HS.out, hT.out, Bool.true_and]
          exact decide_eq_true (by have := of_decide_eq_false e1; omega)
        go_wp2
        go_round
        case rel => exact ⟨k + 1, by go_num, by omega, HN.out⟩
        case measure => simp [intOf]; omega
      · have HN : Hid (ps.all (fun p => decide (p.n ≤ 300)) = false) := by
          show _ = _
          rw [List.all_eq_false]
          exact ⟨p, List.mem_of_getElem? HP.out, by have := of_decide_eq_true e1; simp; omega⟩
        go_wp2
        go_ret
        exact ⟨by rw [HN.out]; rfl, rfl⟩
    · have hkn : ps.take k = ps := List.take_of_length_le (by have := hlen.out; omega)
      have HK := Lib.hid (show ps.all (fun p => decide (p.n ≤ 300)) = true by rw [← hkn]; exact hT.out)
      clear hkn
      go_wp2
      go_ret
      exact ⟨by rw [HK.out]; rfl, rfl⟩

theorem ex_put : putE [] [⟨0, 8, 1, 2, 100⟩, ⟨3, 2, 2, 0, 0⟩] = [⟨0, 3, 1, 2, 100⟩, ⟨3, 2, 2, 0, 0⟩, ⟨5, 3, 1, 2, 180⟩] := by
  unfold putE
  rw [stackP_many (by decide), stackP_one (by decide), stackP_one (by decide)]
  kernel_rfl
theorem ex_at : atP [⟨0, 3, 1, 2, 100⟩, ⟨3, 2, 2, 0, 0⟩, ⟨5, 3, 1, 2, 180⟩] 6 = some ⟨6, 1, 1, 2, 196⟩ := by kernel_rfl
/-- Two extents in one block are a row of two. -/
theorem RowS.two {w : World} {q : Nat} {x y : Ex} (h : Cells w q 28 #[.int .i64 x.lba, .int .i64 x.n, .int .i64 x.ver, .int .i64 x.zone, .int .i64 x.off, .int .i64 y.lba, .int .i64 y.n, .int .i64 y.ver, .int .i64 y.zone, .int .i64 y.off]) : RowL w (some ⟨q, 0, none⟩) 2 2 [x, y] := by
  refine ⟨rfl, by omega, by omega, fun _ => ⟨_, _, rfl, Cells.lt h, fun i z hz j u hu => ?_⟩⟩
  have hj : j < 5 := (List.getElem?_eq_some_iff.1 hu).1
  rw [Cells.cell h]
  match i, hz with
  | 0, hz =>
    simp at hz
    subst hz
    match j, hj with
    | 0, _ => simpa [cellsL] using hu
    | 1, _ => simpa [cellsL] using hu
    | 2, _ => simpa [cellsL] using hu
    | 3, _ => simpa [cellsL] using hu
    | 4, _ => simpa [cellsL] using hu
  | 1, hz =>
    simp at hz
    subst hz
    match j, hj with
    | 0, _ => simpa [cellsL] using hu
    | 1, _ => simpa [cellsL] using hu
    | 2, _ => simpa [cellsL] using hu
    | 3, _ => simpa [cellsL] using hu
    | 4, _ => simpa [cellsL] using hu

set_option maxRecDepth 100000 in
set_option maxHeartbeats 6400000 in
theorem live_any (w : World) : Calls Try.prog 8 #[] w fun e w' => e = .returned (.bool true) ∧ Below w.heap.size w w' := by
  have L1 : Hid (Below w.heap.size w (w.alloc (.cells #[.int .i64 0, .int .i64 8, .int .i64 1, .int .i64 2, .int .i64 100, .int .i64 3, .int .i64 2, .int .i64 2, .int .i64 0, .int .i64 0] 28))) := (Below.refl _ w).alloc (Nat.le_refl _) _
  have R1 : Hid (RowL (w.alloc (.cells #[.int .i64 0, .int .i64 8, .int .i64 1, .int .i64 2, .int .i64 100, .int .i64 3, .int .i64 2, .int .i64 2, .int .i64 0, .int .i64 0] 28)) (some ⟨w.heap.size, 0, none⟩) 2 2 [⟨0, 8, 1, 2, 100⟩, ⟨3, 2, 2, 0, 0⟩]) := RowS.two (Cells.new _ _ _)
  have HP := fun W (h : RowL W (some ⟨w.heap.size, 0, none⟩) 2 2 [⟨0, 8, 1, 2, 100⟩, ⟨3, 2, 2, 0, 0⟩]) => Lib.hid (put_any (RowS.nil _ _ _) h trivial (by
    intro x hx
    rcases List.mem_cons.1 hx with rfl | hx
    · unfold MayX; simp
    · rcases List.mem_cons.1 hx with rfl | hx
      · unfold MayX; simp
      · cases hx) (by omega) (by omega) (by rw [ex_put]; simp))
  rw [ex_put] at HP
  have HAT := fun W A c (h : RowL W A 3 c [⟨0, 3, 1, 2, 100⟩, ⟨3, 2, 2, 0, 0⟩, ⟨5, 3, 1, 2, 180⟩]) => Lib.hid (at_any h (by rw [← okE_iff]; kernel_rfl) (by omega) 6)
  rw [ex_at] at HAT
  have heq1 := ext_eql ⟨5, 3, 1, 2, 180⟩
  have heq2 := ext_eql ⟨6, 1, 1, 2, 196⟩
  have hgd := ext_guard
  go_enter Try.func8, Try.ntmps8
  go_wp2_with fail
  generalize w.alloc (.cells #[.int .i64 0, .int .i64 8, .int .i64 1, .int .i64 2, .int .i64 100, .int .i64 3, .int .i64 2, .int .i64 2, .int .i64 0, .int .i64 0] 28) = w1 at *
  refine (HP w1 R1.out).out.mono ?_
  rintro e w2 ⟨⟨B, m, d, rfl, hO⟩, hb⟩
  have L2 := Lib.hid (L1.out.trans (hb.mono L1.out.size))
  obtain rfl : m = 3 := hO.2.symm
  have R2 := Lib.hid (OwnsL.row hO (by omega))
  clear hb hO HP
  go_wp2_with fail
  refine (HAT w2 B d R2.out).out.mono ?_
  rintro e w3 ⟨rfl, hb⟩
  have L3 := Lib.hid (L2.out.trans (hb.mono L2.out.size))
  have R3 := Lib.hid (R2.out.below hb)
  clear hb HAT R2
  simp only [xvO, Option.isSome_some]
  have L4 : Hid (Below w.heap.size w (w3.alloc (.cells #[.int .i64 6, .int .i64 1, .int .i64 1, .int .i64 2, .int .i64 196] 28))) := L3.out.alloc L3.out.size _
  have N4 : Hid (LBox (w3.alloc (.cells #[.int .i64 6, .int .i64 1, .int .i64 1, .int .i64 2, .int .i64 196] 28)) w3.heap.size ⟨6, 1, 1, 2, 196⟩) := Cells.new _ _ _
  have R4 := Lib.hid (RowS.alloc R3.out (.cells #[.int .i64 6, .int .i64 1, .int .i64 1, .int .i64 2, .int .i64 196] 28))
  go_upto_region 3 with fail
  generalize w3.alloc (.cells #[.int .i64 6, .int .i64 1, .int .i64 1, .int .i64 2, .int .i64 196] 28) = w4 at *
  obtain ⟨n0, n1, n2, n3, n4⟩ := LBox.cells N4.out
  obtain ⟨b, o, hA, c0, c1, c2, c3, c4⟩ := RowS.ext_at (i := 2) R4.out rfl
  subst hA
  dsimp only at n0 n1 n2 n3 n4 c0 c1 c2 c3 c4
  go_wp2_with fail
  go_ret
  exact ⟨rfl, L4.out⟩
end Ext
end Go.Proofs.Ythahemffeagifaa
