/-
  A WALK OVER newDesk: a device laid on a desk of its own. (Written by gen_new.py.)
-/
import Derived.Test.YtbmblgjilmgkeaaZnsCheck
import Derived.Test.YtbmblgjilmgkeaaZnsClone
namespace Go.Proofs.Ytbmblgjilmgkeaa
open Go.RowKit Mem Zon
namespace Zns

/-- The desk's own block. -/
def KBox (w : World) (g : Nat) (cap op ac : Int) (A : Option Addr) (n c : Nat) (m : Bool) : Prop := Cells w g 66 #[.int .i64 cap, .int .i64 op, .int .i64 ac, .slice A n c, .bool m]
/-- The desk while it is made: zones in block q, of which some have bytes of their own already. -/
structure Pre (w : World) (g q o : Nat) (cap op ac : Int) (n c : Nat) (m : Bool) (xs : List Zv) : Prop where
  box : KBox w g cap op ac (some ⟨q, o, none⟩) n c m
  own : OwnZ w q o xs
  len : xs.length = n
  data : ∀ x ∈ xs, Row cb w x.D x.z.data.length x.c x.z.data
  ne : g ≠ q
section
variable {w w' : World} {g q o : Nat} {cap op ac : Int} {n c : Nat} {m : Bool} {xs : List Zv}
theorem Pre.below (h : Pre w g q o cap op ac n c m xs) (hb : Below w.heap.size w w') : Pre w' g q o cap op ac n c m xs :=
  ⟨Cells.below h.box hb, h.own.below hb, h.len, fun x hx => (h.data x hx).below hb, h.ne⟩
theorem Pre.slice (h : Pre w g q o cap op ac n c m xs) : w.cell? ⟨g, 3, none⟩ = some (.slice (some ⟨q, o, none⟩) n c) := Cells.cell h.box 3
theorem Pre.set1 (h : Pre w g q o cap op ac n c m xs) {i j : Nat} {x x' : Zv} {u v : Value} (hx : xs[i]? = some x) (hj : j < 3) (hu : (cellsZ x)[j]? = some u) (hn : ∀ y, u ≠ cb y) (hc : cellsZ x' = (cellsZ x).set j v)
    (hr : Row cb (w.setCell ⟨q, o + i * 3 + j, none⟩ v) x'.D x'.z.data.length x'.c x'.z.data) : Pre (w.setCell ⟨q, o + i * 3 + j, none⟩ v) g q o cap op ac n c m (xs.set i x') := by
  refine ⟨Cells.set_other h.box (fun e => h.ne e.symm) _ _, h.own.set1 hx hj hc, by rw [List.length_set]; exact h.len, fun y hy => ?_, h.ne⟩
  rcases set_mem hy with hy | rfl
  · exact Row.setNot (h.data y hy) (h.own.cell hx hu) hn v
  · exact hr
end
theorem set_same {l : List Zn} {i : Nat} {z : Zn} (h : l[i]? = some z) : l.set i z = l := by
  apply List.ext_getElem?
  intro j
  rw [List.getElem?_set]
  split
  · rename_i e; subst e; split
    · exact h.symm
    · rename_i hl; have := (List.getElem?_eq_some_iff.1 h).1; omega
  · rfl

/-- What newDesk gave. -/
def Made (w : World) (d : Dx) (en : Ending) (w' : World) : Prop :=
  ∃ g A c xs', en = .returned (.pointer (some ⟨g, 0, none⟩)) ∧ w.heap.size ≤ g ∧ KBox w' g d.cap d.op d.ac A d.n c (okD d.p) ∧ RowS cellsZ 3 w' A d.n c xs' ∧ (∀ x ∈ xs', Row cb w' x.D x.z.data.length x.c x.z.data) ∧ xs'.map Zv.z = d.xs.map Zv.z ∧
    Below w.heap.size w w' ∧ (0 < d.n → ∃ q o, A = some ⟨q, o, none⟩ ∧ w.heap.size ≤ q ∧ g ≠ q ∧ OwnZ w' q o xs')

set_option maxRecDepth 100000 in
set_option maxHeartbeats 6400000 in
theorem newDesk_any {d : Dx} {w : World} (h : DevAt w d) (hn : d.n ≤ 1000) :
    Calls Try.prog 32 #[dxv d] w (Made w d) := by
  obtain ⟨cap, op, ac, A, n, c, xs⟩ := d
  have HR := Lib.hid h
  have hn : n ≤ 1000 := hn
  have L1 := Lib.hid ((Below.refl w.heap.size w).alloc (Nat.le_refl _) (.cells #[.int .i64 cap, .int .i64 op, .int .i64 ac, .slice A n c] 25))
  have B1 := Lib.hid (DBox.new w ⟨cap, op, ac, A, n, c, xs⟩)
  have HC := fun w (h : DevAt w ⟨cap, op, ac, A, n, c, xs⟩) => Lib.hid (check_dev h)
  have HCl := fun w (h : RowS cellsZ 3 w A n c xs) => Lib.hid (cloneZ_any h hn)
  have HB := fun (X : Option Addr) (m d : Nat) (l : List B8) w (h : Row cb w X m d l) => Lib.hid (clone_any h)
  have HLN := Lib.hid (show xs.length = n from h.row.len)
  clear h
  unfold Made
  unfold dxv GaveL Gave at *
  generalize okD (Dx.p ⟨cap, op, ac, A, n, c, xs⟩) = ok at *
  dsimp only at *
  go_enter Try.func32, Try.ntmps32
  go_upto_region 1 with fail
  generalize w.alloc (.cells #[.int .i64 cap, .int .i64 op, .int .i64 ac, .slice A n c] 25) = w1 at *
  have L2 : Hid (Below w.heap.size w w1.drew) := L1.out.drew
  have B2 : Hid (DBox w1.drew w.heap.size ⟨cap, op, ac, A, n, c, xs⟩) := B1
  have hcell := fun W (h : DBox W w.heap.size ⟨cap, op, ac, A, n, c, xs⟩) => h.cells
  clear L1 B1
  refine wp_region_held_drew (S := fun W => W.cell? ⟨w.heap.size, 0, none⟩ = some (.int .i64 cap) ∧ W.cell? ⟨w.heap.size, 1, none⟩ = some (.int .i64 op) ∧ W.cell? ⟨w.heap.size, 2, none⟩ = some (.int .i64 ac) ∧ W.cell? ⟨w.heap.size, 3, none⟩ = some (.slice A n c))
    (by kernel_rfl) (hcell _ B2.out) (fun hHeld => ?_)
  generalize w1.drew = w2 at *
  (first | (refine Reg.take 0 (v := ?_) rfl (by kernel_rfl) (by kernel_rfl) (by kernel_rfl) (fun _ _ _ h => h) (Or.inl ⟨by rfl, ?_⟩) (by assumption) ?_; rotate_left; (focus ((intro W hSW); (try dsimp only at hSW); (try go_split_ands); go_simp; (try (with_reducible rfl)); done))) | (refine Reg.take 0 (v := undef) rfl (by kernel_rfl) (by kernel_rfl) (by kernel_rfl) (fun _ _ _ h => h) (Or.inr ⟨by rfl, rfl⟩) (by assumption) ?_))
  (try simp only [Act.put, List.setIfInBounds_toArray, List.set_cons_zero, List.set_cons_succ])
  (first | (refine Reg.take 1 (v := ?_) rfl (by kernel_rfl) (by kernel_rfl) (by kernel_rfl) (fun _ _ _ h => h) (Or.inl ⟨by rfl, ?_⟩) (by assumption) ?_; rotate_left; (focus ((intro W hSW); (try dsimp only at hSW); (try go_split_ands); go_simp; (try (with_reducible rfl)); done))) | (refine Reg.take 1 (v := undef) rfl (by kernel_rfl) (by kernel_rfl) (by kernel_rfl) (fun _ _ _ h => h) (Or.inr ⟨by rfl, rfl⟩) (by assumption) ?_))
  (try simp only [Act.put, List.setIfInBounds_toArray, List.set_cons_zero, List.set_cons_succ])
  refine Reg.step 2 rfl (by kernel_rfl) (by rfl) (fun K hK => ?_)
  go_simp
  refine (HC w2 (HR.out.below L2.out)).out.mono ?_
  rintro e w3 ⟨rfl, hb⟩
  have B3 := Lib.hid (B2.out.below hb)
  have L3 := Lib.hid (L2.out.trans (hb.mono L2.out.size))
  clear hb B2 L2 HC
  refine hK.out _ _ (hcell _ B3.out) (fun hHeld2 => ?_)
  clear hK K
  (try simp only [Act.put, List.setIfInBounds_toArray, List.set_cons_zero, List.set_cons_succ])
  have hok : (errOf ok == 0) = ok := by cases ok <;> rfl
  (first | (refine Reg.take 3 (v := ?_) rfl (by kernel_rfl) (by kernel_rfl) (by kernel_rfl) (fun _ _ _ h => h) (Or.inl ⟨by rfl, ?_⟩) (by assumption) ?_; rotate_left; (focus ((intro W hSW); (try dsimp only at hSW); (try go_split_ands); go_simp; (try (with_reducible rfl)); done))) | (refine Reg.take 3 (v := undef) rfl (by kernel_rfl) (by kernel_rfl) (by kernel_rfl) (fun _ _ _ h => h) (Or.inr ⟨by rfl, rfl⟩) (by assumption) ?_))
  (try simp only [Act.put, List.setIfInBounds_toArray, List.set_cons_zero, List.set_cons_succ])
  (first | (refine Reg.take 4 (v := ?_) rfl (by kernel_rfl) (by kernel_rfl) (by kernel_rfl) (fun _ _ _ h => h) (Or.inl ⟨by rfl, ?_⟩) (by assumption) ?_; rotate_left; (focus ((intro W hSW); (try dsimp only at hSW); (try go_split_ands); go_simp; (try (with_reducible rfl)); done))) | (refine Reg.take 4 (v := undef) rfl (by kernel_rfl) (by kernel_rfl) (by kernel_rfl) (fun _ _ _ h => h) (Or.inr ⟨by rfl, rfl⟩) (by assumption) ?_))
  (try simp only [Act.put, List.setIfInBounds_toArray, List.set_cons_zero, List.set_cons_succ])
  refine Reg.step 5 rfl (by kernel_rfl) (by rfl) (fun K hK => ?_)
  go_simp
  have b4 : Below w3.heap.size w3 (w3.alloc (.cells #[.int .i64 cap, .int .i64 op, .int .i64 ac, .slice A n c, .bool ok] 66)) := (Below.refl _ w3).alloc (Nat.le_refl _) _
  have K4 : Hid (KBox (w3.alloc (.cells #[.int .i64 cap, .int .i64 op, .int .i64 ac, .slice A n c, .bool ok] 66)) w3.heap.size cap op ac A n c ok) := Cells.new w3 _ _
  have B4 := Lib.hid (B3.out.below b4)
  have L4 := Lib.hid (L3.out.trans (b4.mono L3.out.size))
  have G4 : Hid (w.heap.size ≤ w3.heap.size) := L3.out.size
  have U4 : Hid (w3.heap.size < (w3.alloc (.cells #[.int .i64 cap, .int .i64 op, .int .i64 ac, .slice A n c, .bool ok] 66)).heap.size) := by show _ < _; simp
  clear b4 B3 L3
  refine hK.out _ _ (hcell _ B4.out) (fun hHeld3 => ?_)
  clear hK K
  (try simp only [Act.put, List.setIfInBounds_toArray, List.set_cons_zero, List.set_cons_succ])
  (first | (refine Reg.take 6 (v := ?_) rfl (by kernel_rfl) (by kernel_rfl) (by kernel_rfl) (fun _ _ _ h => h) (Or.inl ⟨by rfl, ?_⟩) (by assumption) ?_; rotate_left; (focus ((intro W hSW); (try dsimp only at hSW); (try go_split_ands); go_simp; (try (with_reducible rfl)); done))) | (refine Reg.take 6 (v := undef) rfl (by kernel_rfl) (by kernel_rfl) (by kernel_rfl) (fun _ _ _ h => h) (Or.inr ⟨by rfl, rfl⟩) (by assumption) ?_))
  (try simp only [Act.put, List.setIfInBounds_toArray, List.set_cons_zero, List.set_cons_succ])
  refine wpAnyH_done (by kernel_rfl) ?_ _
  clear hHeld hHeld2 hHeld3 hok hcell
  generalize w3.alloc (.cells #[.int .i64 cap, .int .i64 op, .int .i64 ac, .slice A n c, .bool ok] 66) = w4 at *
  generalize w3.heap.size = g at *
  obtain ⟨m0, m1, m2, m3⟩ := B4.out.cells
  go_wp2_with fail
  refine (HCl w4 (HR.out.row.below L4.out)).out.mono ?_
  rintro e w5 ⟨A', c', rfl, hrow, hb, hown⟩
  have K5 := Lib.hid (Cells.below K4.out hb)
  have L5 := Lib.hid (L4.out.trans (hb.mono L4.out.size))
  have HCP := Lib.hid hrow.cap
  have k3 : w5.cell? ⟨g, 3, none⟩ = some (.slice A n c) := Cells.cell K5.out 3
  have f3 : w5.frozen? ⟨g, 3, none⟩ = false := Cells.frozen K5.out 3
  have HO5 : Hid (0 < n → ∃ q, A' = some ⟨q, 0, none⟩ ∧ w.heap.size ≤ q ∧ g ≠ q ∧ OwnZ (w5.setCell ⟨g, 3, none⟩ (.slice A' n c')) q 0 xs) := by
    show _ → _
    intro h0
    obtain ⟨q, e, hq, ho⟩ := hown h0
    have h1 := U4.out
    have h2 := G4.out
    exact ⟨q, e, by omega, by omega, ho.heap (Below.heap_setCell _ _ _ _ (by show q ≠ g; omega))⟩
  clear hown hrow hb m0 m1 m2 m3 HCl B4 L4 K4
  go_upto_region 3 with fail
  have K6 : Hid (KBox (w5.setCell ⟨g, 3, none⟩ (.slice A' n c')) g cap op ac A' n c' ok) := Cells.set_ K5.out 3 (.slice A' n c')
  have L6 := Lib.hid (L5.out.setCell (p := ⟨g, 3, none⟩) G4.out (.slice A' n c'))
  clear k3 f3 K5 L5
  generalize w5.setCell ⟨g, 3, none⟩ (.slice A' n c') = w6 at *
  have k3 : w6.cell? ⟨g, 3, none⟩ = some (.slice A' n c') := Cells.cell K6.out 3
  go_wp2_with fail
  clear k3
  go_loopw [24] (fun i wr => ∃ j : Nat, i = .int .i64 j ∧ j ≤ n ∧ Hid (∃ xs', KBox wr g cap op ac A' n c' ok ∧ xs'.length = n ∧ (∀ x ∈ xs', Row cb wr x.D x.z.data.length x.c x.z.data) ∧ xs'.map Zv.z = xs.map Zv.z ∧ Below w.heap.size w wr ∧ (0 < n → ∃ q o, A' = some ⟨q, o, none⟩ ∧ w.heap.size ≤ q ∧ g ≠ q ∧ OwnZ wr q o xs'))) (fun i _ => n - (intOf i).toNat)
  case atStart => exact ⟨0, rfl, by omega, xs, K6.out, HLN.out, fun x hx => (HR.out.data x hx).below L6.out, rfl, L6.out, fun h0 => by obtain ⟨q, e1, e2, e3, e4⟩ := HO5.out h0; exact ⟨q, 0, e1, e2, e3, e4⟩⟩
  case round =>
    obtain ⟨j, rfl, hj, hI⟩ := hrel
    by_cases hlt : j < n
    · obtain ⟨xs', i1, i2, i3, i4, i5, i6⟩ := hI.out
      obtain ⟨q, o, rfl, q1, q2, q3⟩ := i6 (by omega)
      have P1 : Hid (Pre wr g q o cap op ac n c' ok xs') := ⟨i1, q3, i2, i3, q2⟩
      have L1 := Lib.hid i5
      have M1 := Lib.hid i4
      have Q1 := Lib.hid q1
      obtain ⟨x, hx⟩ : ∃ x, xs'[j]? = some x := ⟨_, List.getElem?_eq_getElem (by omega)⟩
      have HX := Lib.hid hx
      clear hI i1 i2 i3 i4 i5 i6 q1 q2 q3 hx HO5 K6 L6
      have hk0 : (0 : Int) ≤ (j : Int) := by omega
      have hk1 : (j : Int) < (n : Int) := by omega
      go_upto_region 6 with fail
      have P2 : Hid (Pre wr.drew g q o cap op ac n c' ok xs') := P1.out.below (Below.refl _ wr).drew
      have L2 : Hid (Below w.heap.size w wr.drew) := L1.out.drew
      clear P1 L1
      refine wp_region_held_drew (S := fun W => W.cell? ⟨g, 3, none⟩ = some (.slice (some ⟨q, o, none⟩) n c'))
        (by kernel_rfl) P2.out.slice (fun hHeld => ?_)
      generalize wr.drew = w7 at *
      (first | (refine Reg.take 0 (v := ?_) rfl (by kernel_rfl) (by kernel_rfl) (by kernel_rfl) (fun _ _ _ h => h) (Or.inl ⟨by rfl, ?_⟩) (by assumption) ?_; rotate_left; (focus ((intro W hSW); (try dsimp only at hSW); (try go_split_ands); go_simp; (try (with_reducible rfl)); done))) | (refine Reg.take 0 (v := undef) rfl (by kernel_rfl) (by kernel_rfl) (by kernel_rfl) (fun _ _ _ h => h) (Or.inr ⟨by rfl, rfl⟩) (by assumption) ?_))
      (try simp only [Act.put, List.setIfInBounds_toArray, List.set_cons_zero, List.set_cons_succ])
      (first | (refine Reg.take 1 (v := ?_) rfl (by kernel_rfl) (by kernel_rfl) (by kernel_rfl) (fun _ _ _ h => h) (Or.inl ⟨by rfl, ?_⟩) (by assumption) ?_; rotate_left; (focus ((intro W hSW); (try dsimp only at hSW); (try go_split_ands); go_simp; (try (with_reducible rfl)); done))) | (refine Reg.take 1 (v := undef) rfl (by kernel_rfl) (by kernel_rfl) (by kernel_rfl) (fun _ _ _ h => h) (Or.inr ⟨by rfl, rfl⟩) (by assumption) ?_))
      (try simp only [Act.put, List.setIfInBounds_toArray, List.set_cons_zero, List.set_cons_succ])
      (first | (refine Reg.take 2 (v := ?_) rfl (by kernel_rfl) (by kernel_rfl) (by kernel_rfl) (fun _ _ _ h => h) (Or.inl ⟨by rfl, ?_⟩) (by assumption) ?_; rotate_left; (focus ((intro W hSW); (try dsimp only at hSW); (try go_split_ands); go_simp; (try (with_reducible rfl)); done))) | (refine Reg.take 2 (v := undef) rfl (by kernel_rfl) (by kernel_rfl) (by kernel_rfl) (fun _ _ _ h => h) (Or.inr ⟨by rfl, rfl⟩) (by assumption) ?_))
      (try simp only [Act.put, List.setIfInBounds_toArray, List.set_cons_zero, List.set_cons_succ])
      (first | (refine Reg.take 3 (v := ?_) rfl (by kernel_rfl) (by kernel_rfl) (by kernel_rfl) (fun _ _ _ h => h) (Or.inl ⟨by rfl, ?_⟩) (by assumption) ?_; rotate_left; (focus ((intro W hSW); (try dsimp only at hSW); (try go_split_ands); go_simp; (try (with_reducible rfl)); done))) | (refine Reg.take 3 (v := undef) rfl (by kernel_rfl) (by kernel_rfl) (by kernel_rfl) (fun _ _ _ h => h) (Or.inr ⟨by rfl, rfl⟩) (by assumption) ?_))
      (try simp only [Act.put, List.setIfInBounds_toArray, List.set_cons_zero, List.set_cons_succ])
      (first | (refine Reg.take 4 (v := ?_) rfl (by kernel_rfl) (by kernel_rfl) (by kernel_rfl) (fun _ _ _ h => h) (Or.inl ⟨by rfl, ?_⟩) (by assumption) ?_; rotate_left; (focus ((intro W hSW); (try dsimp only at hSW); (try go_split_ands); go_simp; (try (with_reducible rfl)); done))) | (refine Reg.take 4 (v := undef) rfl (by kernel_rfl) (by kernel_rfl) (by kernel_rfl) (fun _ _ _ h => h) (Or.inr ⟨by rfl, rfl⟩) (by assumption) ?_))
      (try simp only [Act.put, List.setIfInBounds_toArray, List.set_cons_zero, List.set_cons_succ])
      (first | (refine Reg.take 5 (v := ?_) rfl (by kernel_rfl) (by kernel_rfl) (by kernel_rfl) (fun _ _ _ h => h) (Or.inl ⟨by rfl, ?_⟩) (by assumption) ?_; rotate_left; (focus ((intro W hSW); (try dsimp only at hSW); (try go_split_ands); go_simp; (try (with_reducible rfl)); done))) | (refine Reg.take 5 (v := undef) rfl (by kernel_rfl) (by kernel_rfl) (by kernel_rfl) (fun _ _ _ h => h) (Or.inr ⟨by rfl, rfl⟩) (by assumption) ?_))
      (try simp only [Act.put, List.setIfInBounds_toArray, List.set_cons_zero, List.set_cons_succ])
      (first | (refine Reg.take 6 (v := ?_) rfl (by kernel_rfl) (by kernel_rfl) (by kernel_rfl) (fun _ _ _ h => h) (Or.inl ⟨by rfl, ?_⟩) (by assumption) ?_; rotate_left; (focus ((intro W hSW); (try dsimp only at hSW); (try go_split_ands); go_simp; (try (with_reducible rfl)); done))) | (refine Reg.take 6 (v := undef) rfl (by kernel_rfl) (by kernel_rfl) (by kernel_rfl) (fun _ _ _ h => h) (Or.inr ⟨by rfl, rfl⟩) (by assumption) ?_))
      (try simp only [Act.put, List.setIfInBounds_toArray, List.set_cons_zero, List.set_cons_succ])
      (first | (refine Reg.take 7 (v := ?_) rfl (by kernel_rfl) (by kernel_rfl) (by kernel_rfl) (fun _ _ _ h => h) (Or.inl ⟨by rfl, ?_⟩) (by assumption) ?_; rotate_left; (focus ((intro W hSW); (try dsimp only at hSW); (try go_split_ands); go_simp; (try (with_reducible rfl)); done))) | (refine Reg.take 7 (v := undef) rfl (by kernel_rfl) (by kernel_rfl) (by kernel_rfl) (fun _ _ _ h => h) (Or.inr ⟨by rfl, rfl⟩) (by assumption) ?_))
      (try simp only [Act.put, List.setIfInBounds_toArray, List.set_cons_zero, List.set_cons_succ])
      (first | (refine Reg.take 8 (v := ?_) rfl (by kernel_rfl) (by kernel_rfl) (by kernel_rfl) (fun _ _ _ h => h) (Or.inl ⟨by rfl, ?_⟩) (by assumption) ?_; rotate_left; (focus ((intro W hSW); (try dsimp only at hSW); (try go_split_ands); go_simp; (try (with_reducible rfl)); done))) | (refine Reg.take 8 (v := undef) rfl (by kernel_rfl) (by kernel_rfl) (by kernel_rfl) (fun _ _ _ h => h) (Or.inr ⟨by rfl, rfl⟩) (by assumption) ?_))
      (try simp only [Act.put, List.setIfInBounds_toArray, List.set_cons_zero, List.set_cons_succ])
      (first | (refine Reg.take 9 (v := ?_) rfl (by kernel_rfl) (by kernel_rfl) (by kernel_rfl) (fun _ _ _ h => h) (Or.inl ⟨by rfl, ?_⟩) (by assumption) ?_; rotate_left; (focus ((intro W hSW); (try dsimp only at hSW); (try go_split_ands); go_simp; (try (with_reducible rfl)); done))) | (refine Reg.take 9 (v := undef) rfl (by kernel_rfl) (by kernel_rfl) (by kernel_rfl) (fun _ _ _ h => h) (Or.inr ⟨by rfl, rfl⟩) (by assumption) ?_))
      (try simp only [Act.put, List.setIfInBounds_toArray, List.set_cons_zero, List.set_cons_succ])
      (first | (refine Reg.take 10 (v := ?_) rfl (by kernel_rfl) (by kernel_rfl) (by kernel_rfl) (fun _ _ _ h => h) (Or.inl ⟨by rfl, ?_⟩) (by assumption) ?_; rotate_left; (focus ((intro W hSW); (try dsimp only at hSW); (try go_split_ands); go_simp; (try (with_reducible rfl)); done))) | (refine Reg.take 10 (v := undef) rfl (by kernel_rfl) (by kernel_rfl) (by kernel_rfl) (fun _ _ _ h => h) (Or.inr ⟨by rfl, rfl⟩) (by assumption) ?_))
      (try simp only [Act.put, List.setIfInBounds_toArray, List.set_cons_zero, List.set_cons_succ])
      (first | (refine Reg.take 11 (v := ?_) rfl (by kernel_rfl) (by kernel_rfl) (by kernel_rfl) (fun _ _ _ h => h) (Or.inl ⟨by rfl, ?_⟩) (by assumption) ?_; rotate_left; (focus ((intro W hSW); (try dsimp only at hSW); (try go_split_ands); go_simp; (try (with_reducible rfl)); done))) | (refine Reg.take 11 (v := undef) rfl (by kernel_rfl) (by kernel_rfl) (by kernel_rfl) (fun _ _ _ h => h) (Or.inr ⟨by rfl, rfl⟩) (by assumption) ?_))
      (try simp only [Act.put, List.setIfInBounds_toArray, List.set_cons_zero, List.set_cons_succ])
      (first | (refine Reg.take 12 (v := ?_) rfl (by kernel_rfl) (by kernel_rfl) (by kernel_rfl) (fun _ _ _ h => h) (Or.inl ⟨by rfl, ?_⟩) (by assumption) ?_; rotate_left; (focus ((intro W hSW); (try dsimp only at hSW); (try go_split_ands); go_simp; (try (with_reducible rfl)); done))) | (refine Reg.take 12 (v := undef) rfl (by kernel_rfl) (by kernel_rfl) (by kernel_rfl) (fun _ _ _ h => h) (Or.inr ⟨by rfl, rfl⟩) (by assumption) ?_))
      (try simp only [Act.put, List.setIfInBounds_toArray, List.set_cons_zero, List.set_cons_succ])
      (first | (refine Reg.take 13 (v := ?_) rfl (by kernel_rfl) (by kernel_rfl) (by kernel_rfl) (fun _ _ _ h => h) (Or.inl ⟨by rfl, ?_⟩) (by assumption) ?_; rotate_left; (focus ((intro W hSW); (try dsimp only at hSW); (try go_split_ands); go_simp; (try (with_reducible rfl)); done))) | (refine Reg.take 13 (v := undef) rfl (by kernel_rfl) (by kernel_rfl) (by kernel_rfl) (fun _ _ _ h => h) (Or.inr ⟨by rfl, rfl⟩) (by assumption) ?_))
      (try simp only [Act.put, List.setIfInBounds_toArray, List.set_cons_zero, List.set_cons_succ])
      refine Reg.step 14 rfl (by kernel_rfl) (by rfl) (fun K hK => ?_)
      have z2 := P2.out.own.cell HX.out (j := 2) rfl
      go_simp
      clear z2
      refine hK.out _ _ P2.out.slice (fun hHeld2 => ?_)
      clear hK K
      (try simp only [Act.put, List.setIfInBounds_toArray, List.set_cons_zero, List.set_cons_succ])
      refine Reg.step 15 rfl (by kernel_rfl) (by rfl) (fun K hK => ?_)
      go_simp
      refine (HB _ _ _ _ w7 (P2.out.data x (List.mem_of_getElem? HX.out))).out.mono ?_
      rintro e w8 ⟨X, m, b, rfl, hX, hb⟩
      obtain rfl : m = x.z.data.length := hX.len.symm
      have RX := Lib.hid (gave_row hX (P2.out.data x (List.mem_of_getElem? HX.out)).big).1
      have P3 := Lib.hid (P2.out.below hb)
      have L3 := Lib.hid (L2.out.trans (hb.mono L2.out.size))
      clear hX hb P2 L2
      refine hK.out _ _ P3.out.slice (fun hHeld3 => ?_)
      clear hK K
      (try simp only [Act.put, List.setIfInBounds_toArray, List.set_cons_zero, List.set_cons_succ])
      (first | (refine Reg.take 16 (v := ?_) rfl (by kernel_rfl) (by kernel_rfl) (by kernel_rfl) (fun _ _ _ h => h) (Or.inl ⟨by rfl, ?_⟩) (by assumption) ?_; rotate_left; (focus ((intro W hSW); (try dsimp only at hSW); (try go_split_ands); go_simp; (try (with_reducible rfl)); done))) | (refine Reg.take 16 (v := undef) rfl (by kernel_rfl) (by kernel_rfl) (by kernel_rfl) (fun _ _ _ h => h) (Or.inr ⟨by rfl, rfl⟩) (by assumption) ?_))
      (try simp only [Act.put, List.setIfInBounds_toArray, List.set_cons_zero, List.set_cons_succ])
      (first | (refine Reg.take 17 (v := ?_) rfl (by kernel_rfl) (by kernel_rfl) (by kernel_rfl) (fun _ _ _ h => h) (Or.inl ⟨by rfl, ?_⟩) (by assumption) ?_; rotate_left; (focus ((intro W hSW); (try dsimp only at hSW); (try go_split_ands); go_simp; (try (with_reducible rfl)); done))) | (refine Reg.take 17 (v := undef) rfl (by kernel_rfl) (by kernel_rfl) (by kernel_rfl) (fun _ _ _ h => h) (Or.inr ⟨by rfl, rfl⟩) (by assumption) ?_))
      (try simp only [Act.put, List.setIfInBounds_toArray, List.set_cons_zero, List.set_cons_succ])
      refine Reg.step 18 rfl (by kernel_rfl) (by rfl) (fun K hK => ?_)
      have z2 := P3.out.own.cell HX.out (j := 2) rfl
      have y2 := P3.out.own.frozen (o + j * 3 + 2)
      go_simp
      have P4 := Lib.hid (P3.out.set1 (x' := ⟨x.z, X, b⟩) (v := .slice X x.z.data.length b) HX.out (j := 2) (by omega) rfl (slice_not _ _ _) rfl (Row.setNot RX.out z2 (slice_not _ _ _) _))
      have L4 := Lib.hid (L3.out.setCell (p := ⟨q, o + j * 3 + 2, none⟩) Q1.out (.slice X x.z.data.length b))
      have M4 : Hid ((xs'.set j ⟨x.z, X, b⟩).map Zv.z = xs.map Zv.z) := by
        show _ = _
        rw [List.map_set, ← M1.out]
        exact set_same (by rw [List.getElem?_map, HX.out]; rfl)
      clear z2 y2
      refine hK.out _ _ P4.out.slice (fun hHeld4 => ?_)
      clear hK K
      (try simp only [Act.put, List.setIfInBounds_toArray, List.set_cons_zero, List.set_cons_succ])
      refine wpAnyH_done (by kernel_rfl) ?_ _
      go_wp2_with fail
      go_roundw
      case rel => exact ⟨j + 1, by go_num, by omega, _, P4.out.box, P4.out.len, P4.out.data, M4.out, L4.out, fun _ => ⟨q, o, rfl, Q1.out, P4.out.ne, P4.out.own⟩⟩
      case measure => simp [intOf]; omega
    · obtain rfl : n = j := by omega
      go_wp2_with fail
      go_ret
      obtain ⟨xs', i1, i2, i3, i4, i5, i6⟩ := hI.out
      refine ⟨g, A', c', xs', rfl, G4.out, i1, ⟨i2, HCP.out, by omega, fun h0 => ?_⟩, i3, i4, i5, i6⟩
      obtain ⟨q, o, e, -, -, ho⟩ := i6 h0
      exact ⟨q, o, e, ho.lt, fun i x hx j u hu => ho.cell hx hu⟩
end Zns
end Go.Proofs.Ytbmblgjilmgkeaa
