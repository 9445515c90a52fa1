/-
  WALKS: net.picked: messages cloned into a new net.
-/
import Derived.Test.YtamahknnppjegaaNetPlace
import Derived.Laws.MakeOwn
namespace Go.Proofs.Ytamahknnppjegaa
open Go.RowKit Mem Box
namespace Net
open Wire (B8 info_int asInts asInts_append)

theorem run_make_msg (w : World) (n : Nat) (hn : n ≤ 10000000) : (Instr.makeSlice 26 (.int .i64 0) (.int .i64 (n : Int))).run Try.prog w = .ok (.slice (some ⟨w.heap.size, 0, none⟩) 0 n) (w.alloc (.cells (madeCells #[.int .i64 0, .int .i64 0, .int .i64 0, .int .i64 0, .slice none 0 0, .slice none 0 0] (n * 6)) 39)) := by
  obtain ⟨i, hi, hz0, hz1, hz2⟩ := info_parts info_msg
  have h := run_make (P := Try.prog) w 26 39 i _ Try.underlying26 hi hz0 .i64 .i64 0 (n : Int) (by omega) (by omega) (by rw [hz2]; omega) (by omega)
  rw [hz1] at h
  exact h
theorem made_own (w : World) (n : Nat) (hn : n ≤ 10000000) {base : Nat} (hb : base ≤ w.heap.size) (lo : Nat) : OwnN lo base (w.alloc (.cells (madeCells #[.int .i64 0, .int .i64 0, .int .i64 0, .int .i64 0, .slice none 0 0, .slice none 0 0] (n * 6)) 39)) (.slice (some ⟨w.heap.size, 0, none⟩) 0 n) 0 [] :=
  ⟨⟨World.ownsRow_made w _ n hb (by unfold maxLen; omega) (size_madeCells _ _), rfl⟩, by simp, by simp, by simp⟩

/-- What lies at these places. -/
def pickP {α : Type} (l : List α) (at_ : List Nat) : List α := at_.filterMap fun i => l[i]?
theorem pick_map {α β : Type} (f : α → β) (l : List α) (at_ : List Nat) : (pickP l at_).map f = pickP (l.map f) at_ := by
  unfold pickP
  rw [List.map_filterMap]
  congr 1
  funext i
  rw [List.getElem?_map]
theorem pick_snoc {α : Type} {l : List α} {at_ : List Nat} {k i : Nat} {x : α} (hk : at_[k]? = some i) (hx : l[i]? = some x) : pickP l (at_.take (k + 1)) = pickP l (at_.take k) ++ [x] := by
  unfold pickP
  rw [List.take_add_one, hk, List.filterMap_append]
  simp [hx]
theorem asInts_get {l : List Nat} {k : Nat} {z : Int} (h : (asInts l)[k]? = some z) : ∃ i : Nat, l[k]? = some i ∧ z = (i : Int) := by
  unfold asInts at h
  rw [List.getElem?_map] at h
  obtain ⟨i, h1, rfl⟩ := Option.map_eq_some_iff.1 h
  exact ⟨i, h1, rfl⟩
theorem asInts_len (l : List Nat) : (asInts l).length = l.length := by simp [asInts]

/-- A net that grows in a box of its own, beside the net handed in and the result's box. -/
structure OutI (base : Nat) (w wr : World) (cap : Nat) (Q : Option Addr) (n c g : Nat) (R : Option Addr) (k d : Nat) (l : List Mx) : Prop where
  below : Below base w wr
  nb : NBox wr base cap Q n c
  zb : NBox wr (base + 1) 0 none 0 0
  gb : NBox wr g cap R k d
  own : OwnN base base wr (.slice R k d) k l
  ne : base + 1 < g
  bn : ∀ x ∈ l, ∀ q, Bl x q → q ≠ g ∧ q ≠ base + 1
section
variable {base : Nat} {w wr w' : World} {cap : Nat} {Q : Option Addr} {n c g : Nat} {R : Option Addr} {k d : Nat} {l : List Mx}
theorem OutI.base_ (h : OutI base w wr cap Q n c g R k d l) : base ≤ wr.heap.size := by have := h.nb.lt; omega
theorem OutI.keep (h : OutI base w wr cap Q n c g R k d l) (hb : Below wr.heap.size wr w') : OutI base w w' cap Q n c g R k d l :=
  ⟨h.below.trans (hb.mono h.base_), Cells.below h.nb hb, Cells.below h.zb hb, Cells.below h.gb hb, h.own.below hb, h.ne, h.bn⟩
theorem OutI.grown (h : OutI base w wr cap Q n c g R k d l) (hg : wr.grownBy w' (Value.slice R k d).ownBlock) : Below base w w' ∧ NBox w' base cap Q n c ∧ NBox w' (base + 1) 0 none 0 0 ∧ NBox w' g cap R k d :=
  ⟨h.below.trans (OwnS.below_row h.own.own hg h.base_), cells_grown h.nb hg (own_ne h.own.own h.nb (by decide)), cells_grown h.zb hg (own_ne h.own.own h.zb (by decide)), cells_grown h.gb hg (own_ne h.own.own h.gb (by decide))⟩
theorem OutI.apart {y : Mx} (h : OutI base w wr cap Q n c g R k d l) (hy : New wr.heap.size y) : ∀ q, Bl y q → (Value.slice R k d).ownBlock ≠ some q ∧ q ≠ g ∧ q ≠ base + 1 := fun q hq =>
  ⟨fun e => by have h1 := (h.own.own.lt q e).2; have h2 := hy q hq; omega, fun e => by have h1 := h.gb.lt; have h2 := hy q hq; omega, fun e => by have h1 := h.zb.lt; have h2 := hy q hq; omega⟩
/-- A message appended, and the row put back into the box. -/
theorem OutI.push {w6 : World} {R' : Option Addr} {d' : Nat} {y : Mx} (h : OutI base w wr cap Q n c g R k d l) (ho : OwnS.Owns cellsM 6 39 base w6 (.slice R' (k + 1) d') (k + 1) (l ++ [y])) (hg : wr.grownBy w6 (Value.slice R k d).ownBlock)
    (hn : (Value.slice R' (k + 1) d').ownBlock = (Value.slice R k d).ownBlock ∨ (Value.slice R' (k + 1) d').ownBlock = some wr.heap.size) (hy : MAt wr y) (hlow : New base y) (hap : ∀ q, Bl y q → (Value.slice R k d).ownBlock ≠ some q ∧ q ≠ g ∧ q ≠ base + 1) :
    OutI base w (w6.setCell ⟨g, 1, none⟩ (.slice R' (k + 1) d')) cap Q n c g R' (k + 1) d' (l ++ [y]) := by
  obtain ⟨g1, g2, g3, g4⟩ := h.grown hg
  have bt : Mov [g] w6 (w6.setCell ⟨g, 1, none⟩ (.slice R' (k + 1) d')) := Mov.set1 w6 (by simp) 1 _
  have hown := h.own.more ho hg hn (fun z hz => by
    obtain rfl := List.mem_singleton.1 hz
    exact ⟨hy, hlow, fun q hq => (hap q hq).1⟩)
  have hbn : ∀ x ∈ l ++ [y], ∀ q, Bl x q → q ≠ g ∧ q ≠ base + 1 := fun x hx q hq => by
    rcases List.mem_append.1 hx with hx | hx
    · exact h.bn x hx q hq
    · obtain rfl := List.mem_singleton.1 hx; exact (hap q hq).2
  refine ⟨g1.trans (bt.up (Nat.le_trans h.base_ hg.size) (by have := h.ne; omega)), Cells.mov g2 bt (by have := h.ne; simp; omega), Cells.mov g3 bt (by have := h.ne; simp; omega), ?_, hown.mov g4 (by decide) (fun x hx q hq => (hbn x hx q hq).1) bt, h.ne, hbn⟩
  show Cells _ _ _ _
  simpa using Cells.set_ g4 1 (.slice R' (k + 1) d')
end

set_option maxRecDepth 100000 in
set_option maxHeartbeats 6400000 in
theorem picked_any {w : World} {cap : Nat} {Q : Option Addr} {n c : Nat} {l : List Mx} (h : NetAt w Q n c l) {X : Option Addr} {m e : Nat} {at_ : List Nat} (ha : Row ci w X m e (asInts at_)) (hlt : ∀ i ∈ at_, i < n) (hm : m ≤ 1000000) :
    Calls Try.prog 47 #[nv cap Q n c, .slice X m e] w (GaveN w cap (pickP (l.map Mx.p) at_)) := by
  have HN := Lib.hid h
  have HA := Lib.hid ha
  have hal : at_.length = m := by have := ha.len; rwa [asInts_len] at this
  have HLT := Lib.hid hlt
  have hbig := Lib.hid h.row.big
  have hmk := fun w => run_make_msg w m (by omega)
  have L1 : Hid (Below w.heap.size w ((w.alloc (.cells #[.int .i64 (cap : Int), .slice Q n c] 28)).alloc (.cells #[.int .i64 0, .slice none 0 0] 28))) :=  ((Below.refl _ w).alloc (Nat.le_refl _) _).alloc (by simp) _
  have X1 : Hid (NBox ((w.alloc (.cells #[.int .i64 (cap : Int), .slice Q n c] 28)).alloc (.cells #[.int .i64 0, .slice none 0 0] 28)) w.heap.size cap Q n c) :=  Cells.alloc (Cells.new _ _ _) _
  have Z1 : Hid (NBox ((w.alloc (.cells #[.int .i64 (cap : Int), .slice Q n c] 28)).alloc (.cells #[.int .i64 0, .slice none 0 0] 28)) (w.heap.size + 1) 0 none 0 0) := by
    have := Cells.new (w.alloc (.cells #[.int .i64 (cap : Int), .slice Q n c] 28)) #[.int .i64 0, .slice none 0 0] 28
    rw [World.size_alloc] at this
    exact this
  have S1 : Hid (((w.alloc (.cells #[.int .i64 (cap : Int), .slice Q n c] 28)).alloc (.cells #[.int .i64 0, .slice none 0 0] 28)).heap.size = w.heap.size + 2) := by show _ = _; simp
  clear h ha hlt
  unfold nv
  go_enter Try.func47, Try.ntmps47
  go_upto_region 1 with fail
  generalize (w.alloc (.cells #[.int .i64 (cap : Int), .slice Q n c] 28)).alloc (.cells #[.int .i64 0, .slice none 0 0] 28) = w1 at *
  go_cut [5] (fun s wx => ∃ g r, s = .pointer (some ⟨g, 0, none⟩) ∧ Hid (OutI w.heap.size w wx cap Q n c g (some ⟨r, 0, none⟩) 0 m []))
  case first =>
    have L2 := Lib.hid L1.out.drew
    have X2 : Hid (NBox w1.drew w.heap.size cap Q n c) := Cells.drew X1.out
    have Z2 : Hid (NBox w1.drew (w.heap.size + 1) 0 none 0 0) := Cells.drew Z1.out
    have S2 : Hid (w1.drew.heap.size = w.heap.size + 2) := S1.out
    refine wp_region_held_drew (S := fun W => W.cell? ⟨w.heap.size, 0, none⟩ = some (.int .i64 (cap : Int))) (by kernel_rfl) (NBox.cells X2.out).1 (fun hHeld => ?_)
    generalize w1.drew = w2 at *
    clear L1 X1 Z1 S1
    (first | (refine Reg.take 0 (v := ?_) rfl (by kernel_rfl) (by kernel_rfl) (by kernel_rfl) (fun _ _ _ h => h) (Or.inl ⟨by rfl, ?_⟩) (by assumption) ?_; rotate_left; (focus ((intro W hSW); (try dsimp only at hSW); (try go_split_ands); go_simp; (try (with_reducible rfl)); done))) | (refine Reg.take 0 (v := undef) rfl (by kernel_rfl) (by kernel_rfl) (by kernel_rfl) (fun _ _ _ h => h) (Or.inr ⟨by rfl, rfl⟩) (by assumption) ?_))
    (try simp only [Act.put, List.setIfInBounds_toArray, List.set_cons_zero, List.set_cons_succ])
    (first | (refine Reg.take 1 (v := ?_) rfl (by kernel_rfl) (by kernel_rfl) (by kernel_rfl) (fun _ _ _ h => h) (Or.inl ⟨by rfl, ?_⟩) (by assumption) ?_; rotate_left; (focus ((intro W hSW); (try dsimp only at hSW); (try go_split_ands); go_simp; (try (with_reducible rfl)); done))) | (refine Reg.take 1 (v := undef) rfl (by kernel_rfl) (by kernel_rfl) (by kernel_rfl) (fun _ _ _ h => h) (Or.inr ⟨by rfl, rfl⟩) (by assumption) ?_))
    (try simp only [Act.put, List.setIfInBounds_toArray, List.set_cons_zero, List.set_cons_succ])
    (first | (refine Reg.take 2 (v := ?_) rfl (by kernel_rfl) (by kernel_rfl) (by kernel_rfl) (fun _ _ _ h => h) (Or.inl ⟨by rfl, ?_⟩) (by assumption) ?_; rotate_left; (focus ((intro W hSW); (try dsimp only at hSW); (try go_split_ands); go_simp; (try (with_reducible rfl)); done))) | (refine Reg.take 2 (v := undef) rfl (by kernel_rfl) (by kernel_rfl) (by kernel_rfl) (fun _ _ _ h => h) (Or.inr ⟨by rfl, rfl⟩) (by assumption) ?_))
    (try simp only [Act.put, List.setIfInBounds_toArray, List.set_cons_zero, List.set_cons_succ])
    (first | (refine Reg.take 3 (v := ?_) rfl (by kernel_rfl) (by kernel_rfl) (by kernel_rfl) (fun _ _ _ h => h) (Or.inl ⟨by rfl, ?_⟩) (by assumption) ?_; rotate_left; (focus ((intro W hSW); (try dsimp only at hSW); (try go_split_ands); go_simp; (try (with_reducible rfl)); done))) | (refine Reg.take 3 (v := undef) rfl (by kernel_rfl) (by kernel_rfl) (by kernel_rfl) (fun _ _ _ h => h) (Or.inr ⟨by rfl, rfl⟩) (by assumption) ?_))
    (try simp only [Act.put, List.setIfInBounds_toArray, List.set_cons_zero, List.set_cons_succ])
    refine Reg.step2 4 6 rfl rfl (by kernel_rfl) (by rfl) (by rfl) (fun K hK => ?_) (fun K hK => ?_)
    · go_simp
      have bb : Below w2.heap.size w2 (w2.alloc (.cells (madeCells #[.int .i64 0, .int .i64 0, .int .i64 0, .int .i64 0, .slice none 0 0, .slice none 0 0] (m * 6)) 39)) := (Below.refl _ w2).alloc (Nat.le_refl _) _
      have L3 := Lib.hid (L2.out.trans (bb.mono L2.out.size))
      have X3 : Hid (NBox (w2.alloc (.cells (madeCells #[.int .i64 0, .int .i64 0, .int .i64 0, .int .i64 0, .slice none 0 0, .slice none 0 0] (m * 6)) 39)) w.heap.size cap Q n c) := Cells.below X2.out bb
      have Z3 : Hid (NBox (w2.alloc (.cells (madeCells #[.int .i64 0, .int .i64 0, .int .i64 0, .int .i64 0, .slice none 0 0, .slice none 0 0] (m * 6)) 39)) (w.heap.size + 1) 0 none 0 0) := Cells.below Z2.out bb
      have O3 := Lib.hid (made_own w2 m (by omega) L2.out.size w.heap.size)
      have S3 : Hid ((w2.alloc (.cells (madeCells #[.int .i64 0, .int .i64 0, .int .i64 0, .int .i64 0, .slice none 0 0, .slice none 0 0] (m * 6)) 39)).heap.size = w.heap.size + 3) := by show _ = _; rw [World.size_alloc, S2.out]
      obtain ⟨r, hr⟩ : ∃ r, r = w2.heap.size := ⟨_, rfl⟩
      rw [← hr] at O3
      rw [← hr]
      clear bb hr L2 X2 Z2 S2
      generalize w2.alloc (.cells (madeCells #[.int .i64 0, .int .i64 0, .int .i64 0, .int .i64 0, .slice none 0 0, .slice none 0 0] (m * 6)) 39) = w3 at *
      refine hK.out _ _ (NBox.cells X3.out).1 (fun hHeld => ?_)
      clear hK K
      (try simp only [Act.put, List.setIfInBounds_toArray, List.set_cons_zero, List.set_cons_succ])
      (first | (refine Reg.take 5 (v := ?_) rfl (by kernel_rfl) (by kernel_rfl) (by kernel_rfl) (fun _ _ _ h => h) (Or.inl ⟨by rfl, ?_⟩) (by assumption) ?_; rotate_left; (focus ((intro W hSW); (try dsimp only at hSW); (try go_split_ands); go_simp; (try (with_reducible rfl)); done))) | (refine Reg.take 5 (v := undef) rfl (by kernel_rfl) (by kernel_rfl) (by kernel_rfl) (fun _ _ _ h => h) (Or.inr ⟨by rfl, rfl⟩) (by assumption) ?_))
      (try simp only [Act.put, List.setIfInBounds_toArray, List.set_cons_zero, List.set_cons_succ])
      refine Reg.step 6 rfl (by kernel_rfl) (by rfl) (fun K hK => ?_)
      go_simp
      have bb : Below w3.heap.size w3 (w3.alloc (.cells #[.int .i64 0, .slice none 0 0] 28)) := (Below.refl _ w3).alloc (Nat.le_refl _) _
      have L4 := Lib.hid (L3.out.trans (bb.mono L3.out.size))
      have X4 : Hid (NBox (w3.alloc (.cells #[.int .i64 0, .slice none 0 0] 28)) w.heap.size cap Q n c) := Cells.below X3.out bb
      have Z4 : Hid (NBox (w3.alloc (.cells #[.int .i64 0, .slice none 0 0] 28)) (w.heap.size + 1) 0 none 0 0) := Cells.below Z3.out bb
      have O4 := Lib.hid (O3.out.below bb)
      have G4 : Hid (NBox (w3.alloc (.cells #[.int .i64 0, .slice none 0 0] 28)) w3.heap.size 0 none 0 0) := Cells.new _ _ _
      have E : Hid (w.heap.size + 1 < w3.heap.size) := by have := S3.out; show _ < _; omega
      obtain ⟨g, hg⟩ : ∃ g, g = w3.heap.size := ⟨_, rfl⟩
      rw [← hg] at G4 E
      rw [← hg]
      clear bb hg hHeld L3 X3 Z3 O3 S3
      generalize w3.alloc (.cells #[.int .i64 0, .slice none 0 0] 28) = w4 at *
      refine hK.out _ _ (NBox.cells X4.out).1 (fun hHeld => ?_)
      clear hK K
      (try simp only [Act.put, List.setIfInBounds_toArray, List.set_cons_zero, List.set_cons_succ])
      obtain ⟨y0, y1⟩ := NBox.cells G4.out
      have f0 : w4.frozen? ⟨g, 0, none⟩ = false := Cells.frozen G4.out 0
      have f1 : w4.frozen? ⟨g, 1, none⟩ = false := Cells.frozen G4.out 1
      refine Reg.step 7 rfl (by kernel_rfl) (by rfl) (fun K hK => ?_)
      go_simp
      have bt : Mov [g] w4 ((w4.setCell ⟨g, 0, none⟩ (.int .i64 (cap : Int))).setCell ⟨g, 1, none⟩ (.slice (some ⟨r, 0, none⟩) 0 m)) := Mov.set2 w4 g _ _
      have FIN : Hid (OutI w.heap.size w ((w4.setCell ⟨g, 0, none⟩ (.int .i64 (cap : Int))).setCell ⟨g, 1, none⟩ (.slice (some ⟨r, 0, none⟩) 0 m)) cap Q n c g (some ⟨r, 0, none⟩) 0 m []) :=
        ⟨L4.out.trans (bt.up L4.out.size (by have := E.out; omega)), Cells.mov X4.out bt (by have := E.out; simp; omega), Cells.mov Z4.out bt (by have := E.out; simp; omega), Cells.set2 G4.out _ _, O4.out.mov G4.out (by decide) (by simp) bt, E.out, by simp⟩
      clear bt y0 y1 f0 f1 hHeld L4 X4 Z4 O4 G4
      generalize (w4.setCell ⟨g, 0, none⟩ (.int .i64 (cap : Int))).setCell ⟨g, 1, none⟩ (.slice (some ⟨r, 0, none⟩) 0 m) = w5 at *
      refine hK.out _ _ (NBox.cells FIN.out.nb).1 (fun hHeld => ?_)
      clear hK K
      (try simp only [Act.put, List.setIfInBounds_toArray, List.set_cons_zero, List.set_cons_succ])
      refine wpAnyH_done (by kernel_rfl) ?_ _
      clear hHeld
      go_wp2_with fail
      go_meet
      exact ⟨g, r, rfl, FIN.out⟩
    · go_simp
      have bb : Below w2.heap.size w2 (w2.alloc (.cells #[.int .i64 0, .slice none 0 0] 28)) := (Below.refl _ w2).alloc (Nat.le_refl _) _
      have L3 := Lib.hid (L2.out.trans (bb.mono L2.out.size))
      have X3 : Hid (NBox (w2.alloc (.cells #[.int .i64 0, .slice none 0 0] 28)) w.heap.size cap Q n c) := Cells.below X2.out bb
      have Z3 : Hid (NBox (w2.alloc (.cells #[.int .i64 0, .slice none 0 0] 28)) (w.heap.size + 1) 0 none 0 0) := Cells.below Z2.out bb
      have G3 : Hid (NBox (w2.alloc (.cells #[.int .i64 0, .slice none 0 0] 28)) w2.heap.size 0 none 0 0) := Cells.new _ _ _
      have E : Hid (w.heap.size + 1 < w2.heap.size) := by have := S2.out; show _ < _; omega
      obtain ⟨g, hg⟩ : ∃ g, g = w2.heap.size := ⟨_, rfl⟩
      rw [← hg] at G3 E
      rw [← hg]
      clear bb hg hHeld L2 X2 Z2 S2
      generalize w2.alloc (.cells #[.int .i64 0, .slice none 0 0] 28) = w3 at *
      refine hK.out _ _ (NBox.cells X3.out).1 (fun hHeld => ?_)
      clear hK K
      (try simp only [Act.put, List.setIfInBounds_toArray, List.set_cons_zero, List.set_cons_succ])
      refine Reg.step 4 rfl (by kernel_rfl) (by rfl) (fun K hK => ?_)
      go_simp
      have bb : Below w3.heap.size w3 (w3.alloc (.cells (madeCells #[.int .i64 0, .int .i64 0, .int .i64 0, .int .i64 0, .slice none 0 0, .slice none 0 0] (m * 6)) 39)) := (Below.refl _ w3).alloc (Nat.le_refl _) _
      have L4 := Lib.hid (L3.out.trans (bb.mono L3.out.size))
      have X4 : Hid (NBox (w3.alloc (.cells (madeCells #[.int .i64 0, .int .i64 0, .int .i64 0, .int .i64 0, .slice none 0 0, .slice none 0 0] (m * 6)) 39)) w.heap.size cap Q n c) := Cells.below X3.out bb
      have Z4 : Hid (NBox (w3.alloc (.cells (madeCells #[.int .i64 0, .int .i64 0, .int .i64 0, .int .i64 0, .slice none 0 0, .slice none 0 0] (m * 6)) 39)) (w.heap.size + 1) 0 none 0 0) := Cells.below Z3.out bb
      have O4 := Lib.hid (made_own w3 m (by omega) L3.out.size w.heap.size)
      have G4 : Hid (NBox (w3.alloc (.cells (madeCells #[.int .i64 0, .int .i64 0, .int .i64 0, .int .i64 0, .slice none 0 0, .slice none 0 0] (m * 6)) 39)) g 0 none 0 0) := Cells.below G3.out bb
      obtain ⟨r, hr⟩ : ∃ r, r = w3.heap.size := ⟨_, rfl⟩
      rw [← hr] at O4
      rw [← hr]
      clear bb hr hHeld L3 X3 Z3 G3
      generalize w3.alloc (.cells (madeCells #[.int .i64 0, .int .i64 0, .int .i64 0, .int .i64 0, .slice none 0 0, .slice none 0 0] (m * 6)) 39) = w4 at *
      refine hK.out _ _ (NBox.cells X4.out).1 (fun hHeld => ?_)
      clear hK K
      (try simp only [Act.put, List.setIfInBounds_toArray, List.set_cons_zero, List.set_cons_succ])
      (first | (refine Reg.take 5 (v := ?_) rfl (by kernel_rfl) (by kernel_rfl) (by kernel_rfl) (fun _ _ _ h => h) (Or.inl ⟨by rfl, ?_⟩) (by assumption) ?_; rotate_left; (focus ((intro W hSW); (try dsimp only at hSW); (try go_split_ands); go_simp; (try (with_reducible rfl)); done))) | (refine Reg.take 5 (v := undef) rfl (by kernel_rfl) (by kernel_rfl) (by kernel_rfl) (fun _ _ _ h => h) (Or.inr ⟨by rfl, rfl⟩) (by assumption) ?_))
      (try simp only [Act.put, List.setIfInBounds_toArray, List.set_cons_zero, List.set_cons_succ])
      obtain ⟨y0, y1⟩ := NBox.cells G4.out
      have f0 : w4.frozen? ⟨g, 0, none⟩ = false := Cells.frozen G4.out 0
      have f1 : w4.frozen? ⟨g, 1, none⟩ = false := Cells.frozen G4.out 1
      refine Reg.step 7 rfl (by kernel_rfl) (by rfl) (fun K hK => ?_)
      go_simp
      have bt : Mov [g] w4 ((w4.setCell ⟨g, 0, none⟩ (.int .i64 (cap : Int))).setCell ⟨g, 1, none⟩ (.slice (some ⟨r, 0, none⟩) 0 m)) := Mov.set2 w4 g _ _
      have FIN : Hid (OutI w.heap.size w ((w4.setCell ⟨g, 0, none⟩ (.int .i64 (cap : Int))).setCell ⟨g, 1, none⟩ (.slice (some ⟨r, 0, none⟩) 0 m)) cap Q n c g (some ⟨r, 0, none⟩) 0 m []) :=
        ⟨L4.out.trans (bt.up L4.out.size (by have := E.out; omega)), Cells.mov X4.out bt (by have := E.out; simp; omega), Cells.mov Z4.out bt (by have := E.out; simp; omega), Cells.set2 G4.out _ _, O4.out.mov G4.out (by decide) (by simp) bt, E.out, by simp⟩
      clear bt y0 y1 f0 f1 hHeld L4 X4 Z4 O4 G4
      generalize (w4.setCell ⟨g, 0, none⟩ (.int .i64 (cap : Int))).setCell ⟨g, 1, none⟩ (.slice (some ⟨r, 0, none⟩) 0 m) = w5 at *
      refine hK.out _ _ (NBox.cells FIN.out.nb).1 (fun hHeld => ?_)
      clear hK K
      (try simp only [Act.put, List.setIfInBounds_toArray, List.set_cons_zero, List.set_cons_succ])
      refine wpAnyH_done (by kernel_rfl) ?_ _
      clear hHeld
      go_wp2_with fail
      go_meet
      exact ⟨g, r, rfl, FIN.out⟩
  case rest =>
    obtain ⟨g, r, rfl, hO1⟩ := hcut
    clear L1 X1 Z1 S1 hmk
    go_wp2_with fail
    go_loopw [7, 16] (fun _ i wr => ∃ (k : Nat) (R : Option Addr) (d : Nat) (l' : List Mx), i = .int .i64 k ∧ k ≤ m ∧ Hid (OutI w.heap.size w wr cap Q n c g R k d l' ∧ l'.map Mx.p = pickP (l.map Mx.p) (at_.take k))) (fun _ i _ => m - (intOf i).toNat)
    case atStart => exact ⟨0, _, _, [], rfl, by omega, hO1.out, by simp [pickP]⟩
    case round =>
      obtain ⟨k, R, d, l', rfl, hk, hH⟩ := hrel
      obtain ⟨hI, hP⟩ := hH.out
      have HI := Lib.hid hI
      have HP := Lib.hid hP
      clear hI hP hH
      by_cases hlt : k < m
      · obtain ⟨z, hz⟩ := (HA.out.below HI.out.below).get hlt
        obtain ⟨i, hi, rfl⟩ := asInts_get hz
        obtain ⟨b, o, hX, c0⟩ := (HA.out.below HI.out.below).cell hz
        subst hX
        have c0' : wr.cell? ⟨b, o + k, none⟩ = some (.int .i64 (i : Int)) := c0
        have hin := HLT.out i (List.mem_of_getElem? hi)
        obtain ⟨x, hx, hxm⟩ := HN.out.get hin
        obtain ⟨b2, o2, hQ, hb2, hcs⟩ := HN.out.cells hx
        subst hQ
        have HCS := Lib.hid hcs
        have HPS := Lib.hid (pick_snoc (l := l.map Mx.p) (x := x.p) hi (by rw [List.getElem?_map, hx]; rfl))
        have HC := fun W (h : MAt W x) => Lib.hid (cloned_any h)
        have HXM := Lib.hid hxm
        have hk0 : (0 : Int) ≤ (k : Int) := by omega
        have hkn : (k : Int) < (m : Int) := by omega
        have hi0 : (0 : Int) ≤ (i : Int) := by omega
        have hi1 : (i : Int) < (n : Int) := by omega
        clear c0 hz hi hx hxm hcs
        go_upto_region 5 with fail
        have HS := fun W cp Q' n' c' g' R' k' d' l'' (hW : OutI w.heap.size w W cp Q' n' c' g' R' k' d' l'') => And.intro (NBox.cells hW.gb).2 (And.intro (NBox.cells hW.nb).2 (HCS.out W hW.below))
        have I2 := Lib.hid (HI.out.keep ((Below.refl _ wr).drew))
        refine RegK.start (S := fun W => W.cell? ⟨g, 1, none⟩ = some (.slice R k d) ∧ W.cell? ⟨w.heap.size, 1, none⟩ = some (.slice (some ⟨b2, o2, none⟩) n c) ∧ W.cell? ⟨b2, o2 + i * 6, none⟩ = some (.int .i64 x.k) ∧ W.cell? ⟨b2, o2 + i * 6 + 1, none⟩ = some (.int .i64 x.f) ∧ W.cell? ⟨b2, o2 + i * 6 + 2, none⟩ = some (.int .i64 x.t) ∧ W.cell? ⟨b2, o2 + i * 6 + 3, none⟩ = some (.int .i64 x.i) ∧ W.cell? ⟨b2, o2 + i * 6 + 4, none⟩ = some (.slice x.A x.n x.c) ∧ W.cell? ⟨b2, o2 + i * 6 + 5, none⟩ = some (.slice x.B x.m x.d)) 11 (by kernel_rfl) (HS _ _ _ _ _ _ _ _ _ _ I2.out) (fun hHeld => ?_)
        generalize wr.drew = w2 at *
        clear HI c0'
        (first | (refine RegK.take 0 [11] (v := ?_) rfl (by kernel_rfl) (by kernel_rfl) (by kernel_rfl) (by kernel_rfl) rfl (by kernel_rfl) (fun _ _ _ h => h) (Or.inl ⟨by rfl, ?_⟩) (by assumption) ?_; rotate_left; (focus ((intro W hSW; (try dsimp only at hSW); (try go_split_ands); go_simp; (try (with_reducible rfl)); done)))) | (refine RegK.take 0 [11] (v := undef) rfl (by kernel_rfl) (by kernel_rfl) (by kernel_rfl) (by kernel_rfl) rfl (by kernel_rfl) (fun _ _ _ h => h) (Or.inr ⟨by rfl, rfl⟩) (by assumption) ?_))
        (try simp only [Act.put, List.setIfInBounds_toArray, List.set_cons_zero, List.set_cons_succ])
        (first | (refine RegK.take 1 [11] (v := ?_) rfl (by kernel_rfl) (by kernel_rfl) (by kernel_rfl) (by kernel_rfl) rfl (by kernel_rfl) (fun _ _ _ h => h) (Or.inl ⟨by rfl, ?_⟩) (by assumption) ?_; rotate_left; (focus ((intro W hSW; (try dsimp only at hSW); (try go_split_ands); go_simp; (try (with_reducible rfl)); done)))) | (refine RegK.take 1 [11] (v := undef) rfl (by kernel_rfl) (by kernel_rfl) (by kernel_rfl) (by kernel_rfl) rfl (by kernel_rfl) (fun _ _ _ h => h) (Or.inr ⟨by rfl, rfl⟩) (by assumption) ?_))
        (try simp only [Act.put, List.setIfInBounds_toArray, List.set_cons_zero, List.set_cons_succ])
        (first | (refine RegK.take 2 [11] (v := ?_) rfl (by kernel_rfl) (by kernel_rfl) (by kernel_rfl) (by kernel_rfl) rfl (by kernel_rfl) (fun _ _ _ h => h) (Or.inl ⟨by rfl, ?_⟩) (by assumption) ?_; rotate_left; (focus ((intro W hSW; (try dsimp only at hSW); (try go_split_ands); go_simp; (try (with_reducible rfl)); done)))) | (refine RegK.take 2 [11] (v := undef) rfl (by kernel_rfl) (by kernel_rfl) (by kernel_rfl) (by kernel_rfl) rfl (by kernel_rfl) (fun _ _ _ h => h) (Or.inr ⟨by rfl, rfl⟩) (by assumption) ?_))
        (try simp only [Act.put, List.setIfInBounds_toArray, List.set_cons_zero, List.set_cons_succ])
        (first | (refine RegK.take 3 [11] (v := ?_) rfl (by kernel_rfl) (by kernel_rfl) (by kernel_rfl) (by kernel_rfl) rfl (by kernel_rfl) (fun _ _ _ h => h) (Or.inl ⟨by rfl, ?_⟩) (by assumption) ?_; rotate_left; (focus ((intro W hSW; (try dsimp only at hSW); (try go_split_ands); go_simp; (try (with_reducible rfl)); done)))) | (refine RegK.take 3 [11] (v := undef) rfl (by kernel_rfl) (by kernel_rfl) (by kernel_rfl) (by kernel_rfl) rfl (by kernel_rfl) (fun _ _ _ h => h) (Or.inr ⟨by rfl, rfl⟩) (by assumption) ?_))
        (try simp only [Act.put, List.setIfInBounds_toArray, List.set_cons_zero, List.set_cons_succ])
        (first | (refine RegK.take 4 [11] (v := ?_) rfl (by kernel_rfl) (by kernel_rfl) (by kernel_rfl) (by kernel_rfl) rfl (by kernel_rfl) (fun _ _ _ h => h) (Or.inl ⟨by rfl, ?_⟩) (by assumption) ?_; rotate_left; (focus ((intro W hSW; (try dsimp only at hSW); (try go_split_ands); go_simp; (try (with_reducible rfl)); done)))) | (refine RegK.take 4 [11] (v := undef) rfl (by kernel_rfl) (by kernel_rfl) (by kernel_rfl) (by kernel_rfl) rfl (by kernel_rfl) (fun _ _ _ h => h) (Or.inr ⟨by rfl, rfl⟩) (by assumption) ?_))
        (try simp only [Act.put, List.setIfInBounds_toArray, List.set_cons_zero, List.set_cons_succ])
        (first | (refine RegK.take 5 [11] (v := ?_) rfl (by kernel_rfl) (by kernel_rfl) (by kernel_rfl) (by kernel_rfl) rfl (by kernel_rfl) (fun _ _ _ h => h) (Or.inl ⟨by rfl, ?_⟩) (by assumption) ?_; rotate_left; (focus ((intro W hSW; (try dsimp only at hSW); (try go_split_ands); go_simp; (try (with_reducible rfl)); done)))) | (refine RegK.take 5 [11] (v := undef) rfl (by kernel_rfl) (by kernel_rfl) (by kernel_rfl) (by kernel_rfl) rfl (by kernel_rfl) (fun _ _ _ h => h) (Or.inr ⟨by rfl, rfl⟩) (by assumption) ?_))
        (try simp only [Act.put, List.setIfInBounds_toArray, List.set_cons_zero, List.set_cons_succ])
        (first | (refine RegK.take 6 [11] (v := ?_) rfl (by kernel_rfl) (by kernel_rfl) (by kernel_rfl) (by kernel_rfl) rfl (by kernel_rfl) (fun _ _ _ h => h) (Or.inl ⟨by rfl, ?_⟩) (by assumption) ?_; rotate_left; (focus ((intro W hSW; (try dsimp only at hSW); (try go_split_ands); go_simp; (try (with_reducible rfl)); done)))) | (refine RegK.take 6 [11] (v := undef) rfl (by kernel_rfl) (by kernel_rfl) (by kernel_rfl) (by kernel_rfl) rfl (by kernel_rfl) (fun _ _ _ h => h) (Or.inr ⟨by rfl, rfl⟩) (by assumption) ?_))
        (try simp only [Act.put, List.setIfInBounds_toArray, List.set_cons_zero, List.set_cons_succ])
        refine RegK.step 7 rfl (by kernel_rfl) (by rfl) (fun K hK => ?_)
        go_simp
        refine (HC _ (HXM.out.below I2.out.below)).out.mono ?_
        rintro e w3 ⟨y, rfl, hy, hya, hyn, hb, -⟩
        have I3 := Lib.hid (I2.out.keep hb)
        have YA := Lib.hid hya
        have YN := Lib.hid hyn
        have YP := Lib.hid hy
        have YL : Hid (∀ q, Bl y q → (Value.slice R k d).ownBlock ≠ some q ∧ q ≠ g ∧ q ≠ w.heap.size + 1) := I2.out.apart hyn
        have YB : Hid (New w.heap.size y) := hyn.mono I2.out.base_
        clear hy hya hyn hb HC hHeld
        have hHeld := HS _ _ _ _ _ _ _ _ _ _ I3.out
        refine hK.out _ _ (fun _ => hHeld) ?_
        clear hK K YN I2
        (try simp only [Act.put, List.setIfInBounds_toArray, List.set_cons_zero, List.set_cons_succ])
        unfold mxv
        refine RegK.step 8 rfl (by kernel_rfl) (by rfl) (fun K hK => ?_)
        go_simp
        have bb : Below w3.heap.size w3 (w3.alloc (.cells #[.int .i64 y.k, .int .i64 y.f, .int .i64 y.t, .int .i64 y.i, .slice y.A y.n y.c, .slice y.B y.m y.d] 39)) := (Below.refl _ w3).alloc (Nat.le_refl _) _
        have I4 := Lib.hid (I3.out.keep bb)
        have YA4 := Lib.hid (YA.out.below bb)
        have R4 := Lib.hid (one_msg w3 y)
        clear bb hHeld I3 YA
        have hHeld := HS _ _ _ _ _ _ _ _ _ _ I4.out
        refine hK.out _ _ (fun _ => hHeld) ?_
        clear hK K
        (try simp only [Act.put, List.setIfInBounds_toArray, List.set_cons_zero, List.set_cons_succ])
        obtain ⟨p1, hp1⟩ : ∃ p, p = w3.heap.size := ⟨_, rfl⟩
        rw [← hp1] at R4
        rw [← hp1]
        clear hp1
        generalize w3.alloc (.cells #[.int .i64 y.k, .int .i64 y.f, .int .i64 y.t, .int .i64 y.i, .slice y.A y.n y.c, .slice y.B y.m y.d] 39) = w4 at *
        refine RegK.step 9 rfl (by kernel_rfl) (by rfl) (fun K hK => ?_)
        refine OwnS.wp_append1 fitM Try.underlying26 info_msg rfl (by omega) (.tmp 21) (.tmp 28) rfl rfl w.heap.size (.slice R k d) k l' rfl I4.out.own.own _ 1 1 [y] rfl R4.out (by omega) I4.out.base_ ?_
        intro R' d' w5 ho hg hn
        obtain ⟨G1, G2, G3, G4⟩ := I4.out.grown hg
        have PU := Lib.hid (I4.out.push ho hg hn YA4.out YB.out YL.out)
        have y1 := (NBox.cells G4).2
        have f1 : w5.frozen? ⟨g, 1, none⟩ = false := Cells.frozen G4 1
        clear hHeld
        have hHeld := And.intro y1 (And.intro (NBox.cells G2).2 (HCS.out w5 G1))
        refine hK.out _ _ (fun _ => hHeld) ?_
        clear hK K ho hg hn G1 G2 G3 G4 I4 YA4 YB YL R4
        (try simp only [Act.put, List.setIfInBounds_toArray, List.set_cons_zero, List.set_cons_succ])
        (first | (refine RegK.take 10 [11] (v := ?_) rfl (by kernel_rfl) (by kernel_rfl) (by kernel_rfl) (by kernel_rfl) rfl (by kernel_rfl) (fun _ _ _ h => h) (Or.inl ⟨by rfl, ?_⟩) (by assumption) ?_; rotate_left; (focus ((intro W hSW; (try dsimp only at hSW); (try go_split_ands); go_simp; (try (with_reducible rfl)); done)))) | (refine RegK.take 10 [11] (v := undef) rfl (by kernel_rfl) (by kernel_rfl) (by kernel_rfl) (by kernel_rfl) rfl (by kernel_rfl) (fun _ _ _ h => h) (Or.inr ⟨by rfl, rfl⟩) (by assumption) ?_))
        (try simp only [Act.put, List.setIfInBounds_toArray, List.set_cons_zero, List.set_cons_succ])
        refine RegK.step 11 rfl (by kernel_rfl) (by rfl) (fun K hK => ?_)
        go_simp
        refine hK.out _ _ (fun h => absurd rfl h) ?_
        clear hK K hHeld y1 f1
        (try simp only [Act.put, List.setIfInBounds_toArray, List.set_cons_zero, List.set_cons_succ])
        refine RegK.done (by kernel_rfl) ?_ _
        go_wp2_with fail
        go_roundw
        case rel => exact ⟨k + 1, R', d', l' ++ [y], by go_num, by omega, PU.out, by rw [HPS.out, List.map_append, HP.out]; show _ ++ [y.p] = _; rw [YP.out]⟩
        case measure => simp [intOf]; omega
      · have hkm : k = m := by omega
        subst hkm
        obtain ⟨n0, n1⟩ := NBox.cells HI.out.gb
        obtain ⟨z0, z1⟩ := NBox.cells HI.out.zb
        have f0 : wr.frozen? ⟨w.heap.size + 1, 0, none⟩ = false := Cells.frozen HI.out.zb 0
        have f1 : wr.frozen? ⟨w.heap.size + 1, 1, none⟩ = false := Cells.frozen HI.out.zb 1
        go_wp2_with fail
        have bt := Mov.set2 wr (w.heap.size + 1) (.int .i64 (cap : Int)) (.slice R k d)
        have HR := Cells.set2 HI.out.zb (.int .i64 (cap : Int)) (.slice R k d)
        have HO := HI.out.own.mov HI.out.zb (by decide) (fun x hx q hq => (HI.out.bn x hx q hq).2) bt
        refine bodyPost_ret_by (results_c0 rfl _ _ (w.heap.size + 1) _ _ _ _ rfl HR Try.underlying28 rfl (by kernel_rfl)) rfl ?_
        exact ⟨R, k, d, l', rfl, HO, by rw [HP.out, List.take_of_length_le (by omega)], HI.out.below.trans (bt.up HI.out.base_ (by omega))⟩
end Net
end Go.Proofs.Ytamahknnppjegaa
