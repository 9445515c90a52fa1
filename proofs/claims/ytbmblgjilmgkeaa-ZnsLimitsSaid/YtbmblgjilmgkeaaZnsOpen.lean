/-
  A WALK: a zone is laid in its place, which had to be opened for it (putOpen).
-/
import Derived.Test.YtbmblgjilmgkeaaZnsPut
namespace Go.Proofs.Ytbmblgjilmgkeaa
open Go.RowKit Mem Zon
namespace Zns

theorem toCl_cases (op ac : Int) (zs : List Zn) (z : Zn) : (toCl op ac zs z = (-1, 0)) ∨ (toCl op ac zs z = (-1, 44) ∨ toCl op ac zs z = (-1, 43)) ∨ ∃ (j : Nat) (y : Zn), toCl op ac zs z = ((j : Int), 0) ∧ zs[j]? = some y ∧ y.st = 1 := by
  unfold toCl
  rcases openB z
  · rcases (!actB z && decide (ac ≤ (cA zs : Int)))
    · rcases decide ((cO zs : Int) < op)
      · simp only [cond_false]
        rcases e : firstI zs with _ | j
        · exact .inr (.inl (.inr rfl))
        · have e' := e
          unfold firstI at e'
          rw [List.findIdx?_eq_some_iff_getElem] at e'
          obtain ⟨hj, h1, -⟩ := e'
          exact .inr (.inr ⟨j, zs[j], rfl, List.getElem?_eq_getElem hj, by simpa using h1⟩)
      · exact .inl rfl
    · exact .inr (.inl (.inl rfl))
  · exact .inl rfl

/-- What putOpen came to. -/
def PutO (k : Dk) (w : World) (r : List Zn × Int) (en : Ending) (w' : World) : Prop := ∃ xs', en = .returned (.int .i64 r.2) ∧ Desk k xs' w' ∧ xs'.map Zv.z = r.1 ∧ But k.q w w'

set_option maxRecDepth 100000 in
set_option maxHeartbeats 3200000 in
theorem putOpen_any {k : Dk} {xs : List Zv} {w : World} {i : Nat} {x : Zv} (z : Zn) (D : Option Addr) (c : Nat) (h : Desk k xs w) (hx : xs[i]? = some x) (hr : Row cb w D z.data.length c z.data) :
    Calls Try.prog 51 #[.pointer (some ⟨k.g, 0, none⟩), .int .i64 (i : Int), zv z D c] w (PutO k w (putO k.op k.ac (xs.map Zv.z) i z)) := by
  have H := Lib.hid h
  have HX := Lib.hid hx
  have hi0 : (0 : Int) ≤ (i : Int) := by omega
  have hi1 : (i : Int) < (k.n : Int) := by have := (List.getElem?_eq_some_iff.1 hx).1; have := h.len; omega
  have L1 := Lib.hid ((Below.refl w.heap.size w).alloc (Nat.le_refl _) (.cells #[.int .i64 z.st, .int .i64 z.fc, .slice D z.data.length c] 42))
  have B1 : Hid (Box (w.alloc (.cells #[.int .i64 z.st, .int .i64 z.fc, .slice D z.data.length c] 42)) w.heap.size z D c) := Box.new w z D c
  have R := Lib.hid hr
  have HT := fun w (h : Desk k xs w) => Lib.hid (toClose_any h hx)
  have HC := fun (y : Zn) E d w (h : Row cb w E y.data.length d y.data) => Lib.hid (close_any h)
  have hq : Hid (w.heap.size ≠ k.q) := by have := h.q_lt; show _ ≠ _; omega
  have hcell := fun W (xs : List Zv) (x : Zv) (hx : xs[i]? = some x) (h : Desk k xs W) (hb : Box W w.heap.size z D c) => And.intro h.cells.2.2.2.1 (And.intro (hb.cells) (And.intro (h.elem hx) (And.intro (h.frozen (k.o + i * 3)) (And.intro (h.frozen (k.o + i * 3 + 1)) (h.frozen (k.o + i * 3 + 2))))))
  have hcellj := fun W (j : Nat) (y : Zv) (hy : xs[j]? = some y) (h : Desk k xs W) (hb : Box W w.heap.size z D c) => And.intro h.cells.2.2.2.1 (And.intro (hb.cells) (And.intro (h.elem hy) (And.intro (h.frozen (k.o + j * 3)) (And.intro (h.frozen (k.o + j * 3 + 1)) (h.frozen (k.o + j * 3 + 2))))))
  have hat := atI_of hx
  have hxl := (List.getElem?_eq_some_iff.1 hx).1
  clear h hx hr
  unfold putO
  rw [hat]
  unfold zv GaveZ PutO at *
  rcases toCl_cases k.op k.ac (xs.map Zv.z) x.z with ht | ht | ⟨j, y0, ht, hy0, hy1⟩
  · rw [ht] at HT ⊢
    go_enter Try.func51, Try.ntmps51
    go_upto_region 1 with fail
    generalize w.alloc (.cells #[.int .i64 z.st, .int .i64 z.fc, .slice D z.data.length c] 42) = w1 at *
    go_wp2_with fail
    refine (HT w1 (H.out.below L1.out)).out.mono ?_
    rintro e wx ⟨rfl, hb⟩
    have LX := Lib.hid (L1.out.trans (hb.mono L1.out.size))
    have BX := Lib.hid (B1.out.below hb)
    clear hb L1 B1 HT
    go_upto_region 6 with fail
    have H2 : Hid (Desk k xs wx.drew) := H.out.below LX.out.drew
    have B2 : Hid (Box wx.drew w.heap.size z D c) := BX
    have R2 : Hid (Row cb wx.drew D z.data.length c z.data) := R.out.below LX.out.drew
    have U2 : Hid (But k.q w wx.drew) := But.of_below LX.out.drew
    have hx2 := HX.out
    clear LX BX
    refine wp_region_held_drew (S := fun W => W.cell? ⟨k.g, 3, none⟩ = some (.slice (some ⟨k.q, k.o, none⟩) k.n k.c) ∧ (W.cell? ⟨w.heap.size, 0, none⟩ = some (.int .i64 z.st) ∧ W.cell? ⟨w.heap.size, 1, none⟩ = some (.int .i64 z.fc) ∧ W.cell? ⟨w.heap.size, 2, none⟩ = some (.slice D z.data.length c)))
      (by kernel_rfl) ⟨(hcell _ _ _ hx2 H2.out B2.out).1, (hcell _ _ _ hx2 H2.out B2.out).2.1⟩ (fun hHeld => ?_)
    generalize wx.drew = w2 at *
    have HS := Lib.hid (H2.out.store ⟨z, D, c⟩ hx2 R2.out)
    have HZ := Lib.hid (Box.but B2.out (But.set3 (But.refl k.q w2) (k.o + i * 3) (k.o + i * 3 + 1) (k.o + i * 3 + 2) (.int .i64 z.st) (.int .i64 z.fc) (.slice D z.data.length c)) hq.out)
    have HB := Lib.hid (But.set3 U2.out (k.o + i * 3) (k.o + i * 3 + 1) (k.o + i * 3 + 2) (.int .i64 z.st) (.int .i64 z.fc) (.slice D z.data.length c))
    obtain ⟨d3, q0, q1, s0, s1, s2⟩ := hcell _ _ _ hx2 H2.out B2.out
    (first | (refine Reg.take 0 (v := ?_) rfl (by kernel_rfl) (by kernel_rfl) (by kernel_rfl) (fun _ _ _ h => h) (Or.inl ⟨by rfl, ?_⟩) (by assumption) ?_; rotate_left; (focus ((intro W hSW); (try dsimp only at hSW); (try go_split_ands); go_simp; (try (with_reducible rfl)); done))) | (refine Reg.take 0 (v := undef) rfl (by kernel_rfl) (by kernel_rfl) (by kernel_rfl) (fun _ _ _ h => h) (Or.inr ⟨by rfl, rfl⟩) (by assumption) ?_))
    (try simp only [Act.put, List.setIfInBounds_toArray, List.set_cons_zero, List.set_cons_succ])
    (first | (refine Reg.take 1 (v := ?_) rfl (by kernel_rfl) (by kernel_rfl) (by kernel_rfl) (fun _ _ _ h => h) (Or.inl ⟨by rfl, ?_⟩) (by assumption) ?_; rotate_left; (focus ((intro W hSW); (try dsimp only at hSW); (try go_split_ands); go_simp; (try (with_reducible rfl)); done))) | (refine Reg.take 1 (v := undef) rfl (by kernel_rfl) (by kernel_rfl) (by kernel_rfl) (fun _ _ _ h => h) (Or.inr ⟨by rfl, rfl⟩) (by assumption) ?_))
    (try simp only [Act.put, List.setIfInBounds_toArray, List.set_cons_zero, List.set_cons_succ])
    (first | (refine Reg.take 2 (v := ?_) rfl (by kernel_rfl) (by kernel_rfl) (by kernel_rfl) (fun _ _ _ h => h) (Or.inl ⟨by rfl, ?_⟩) (by assumption) ?_; rotate_left; (focus ((intro W hSW); (try dsimp only at hSW); (try go_split_ands); go_simp; (try (with_reducible rfl)); done))) | (refine Reg.take 2 (v := undef) rfl (by kernel_rfl) (by kernel_rfl) (by kernel_rfl) (fun _ _ _ h => h) (Or.inr ⟨by rfl, rfl⟩) (by assumption) ?_))
    (try simp only [Act.put, List.setIfInBounds_toArray, List.set_cons_zero, List.set_cons_succ])
    (first | (refine Reg.take 3 (v := ?_) rfl (by kernel_rfl) (by kernel_rfl) (by kernel_rfl) (fun _ _ _ h => h) (Or.inl ⟨by rfl, ?_⟩) (by assumption) ?_; rotate_left; (focus ((intro W hSW); (try dsimp only at hSW); (try go_split_ands); go_simp; (try (with_reducible rfl)); done))) | (refine Reg.take 3 (v := undef) rfl (by kernel_rfl) (by kernel_rfl) (by kernel_rfl) (fun _ _ _ h => h) (Or.inr ⟨by rfl, rfl⟩) (by assumption) ?_))
    (try simp only [Act.put, List.setIfInBounds_toArray, List.set_cons_zero, List.set_cons_succ])
    (first | (refine Reg.take 4 (v := ?_) rfl (by kernel_rfl) (by kernel_rfl) (by kernel_rfl) (fun _ _ _ h => h) (Or.inl ⟨by rfl, ?_⟩) (by assumption) ?_; rotate_left; (focus ((intro W hSW); (try dsimp only at hSW); (try go_split_ands); go_simp; (try (with_reducible rfl)); done))) | (refine Reg.take 4 (v := undef) rfl (by kernel_rfl) (by kernel_rfl) (by kernel_rfl) (fun _ _ _ h => h) (Or.inr ⟨by rfl, rfl⟩) (by assumption) ?_))
    (try simp only [Act.put, List.setIfInBounds_toArray, List.set_cons_zero, List.set_cons_succ])
    (first | (refine Reg.take 5 (v := ?_) rfl (by kernel_rfl) (by kernel_rfl) (by kernel_rfl) (fun _ _ _ h => h) (Or.inl ⟨by rfl, ?_⟩) (by assumption) ?_; rotate_left; (focus ((intro W hSW); (try dsimp only at hSW); (try go_split_ands); go_simp; (try (with_reducible rfl)); done))) | (refine Reg.take 5 (v := undef) rfl (by kernel_rfl) (by kernel_rfl) (by kernel_rfl) (fun _ _ _ h => h) (Or.inr ⟨by rfl, rfl⟩) (by assumption) ?_))
    (try simp only [Act.put, List.setIfInBounds_toArray, List.set_cons_zero, List.set_cons_succ])
    (first | (refine Reg.take 6 (v := ?_) rfl (by kernel_rfl) (by kernel_rfl) (by kernel_rfl) (fun _ _ _ h => h) (Or.inl ⟨by rfl, ?_⟩) (by assumption) ?_; rotate_left; (focus ((intro W hSW); (try dsimp only at hSW); (try go_split_ands); go_simp; (try (with_reducible rfl)); done))) | (refine Reg.take 6 (v := undef) rfl (by kernel_rfl) (by kernel_rfl) (by kernel_rfl) (fun _ _ _ h => h) (Or.inr ⟨by rfl, rfl⟩) (by assumption) ?_))
    (try simp only [Act.put, List.setIfInBounds_toArray, List.set_cons_zero, List.set_cons_succ])
    (first | (refine Reg.take 7 (v := ?_) rfl (by kernel_rfl) (by kernel_rfl) (by kernel_rfl) (fun _ _ _ h => h) (Or.inl ⟨by rfl, ?_⟩) (by assumption) ?_; rotate_left; (focus ((intro W hSW); (try dsimp only at hSW); (try go_split_ands); go_simp; (try (with_reducible rfl)); done))) | (refine Reg.take 7 (v := undef) rfl (by kernel_rfl) (by kernel_rfl) (by kernel_rfl) (fun _ _ _ h => h) (Or.inr ⟨by rfl, rfl⟩) (by assumption) ?_))
    (try simp only [Act.put, List.setIfInBounds_toArray, List.set_cons_zero, List.set_cons_succ])
    refine Reg.step 8 rfl (by kernel_rfl) (by rfl) (fun K hK => ?_)
    obtain ⟨g0, g1, g2⟩ := q1
    go_simp
    refine hK.out _ _ ⟨HS.out.cells.2.2.2.1, HZ.out.cells⟩ (fun hHeld2 => ?_)
    clear hK K
    (try simp only [Act.put, List.setIfInBounds_toArray, List.set_cons_zero, List.set_cons_succ])
    refine wpAnyH_done (by kernel_rfl) ?_ _
    clear d3 q0 g0 g1 g2 s0 s1 s2 hHeld hHeld2
    generalize ((w2.setCell ⟨k.q, k.o + i * 3, none⟩ (.int .i64 z.st)).setCell ⟨k.q, k.o + i * 3 + 1, none⟩ (.int .i64 z.fc)).setCell ⟨k.q, k.o + i * 3 + 2, none⟩ (.slice D z.data.length c) = w9 at *
    go_wp2_with fail
    go_ret
    exact ⟨_, rfl, HS.out, map_set xs i _, HB.out⟩
  · obtain ⟨er, ht, hne⟩ : ∃ er, toCl k.op k.ac (xs.map Zv.z) x.z = (-1, er) ∧ er ≠ 0 := by
      rcases ht with ht | ht
      · exact ⟨_, ht, by decide⟩
      · exact ⟨_, ht, by decide⟩
    rw [ht] at HT ⊢
    have hne1 : (er != 0) = true := bne_iff_ne.2 hne
    have hne2 : (er == 0) = false := beq_eq_false_iff_ne.2 hne
    rw [hne2]
    go_enter Try.func51, Try.ntmps51
    go_upto_region 1 with fail
    generalize w.alloc (.cells #[.int .i64 z.st, .int .i64 z.fc, .slice D z.data.length c] 42) = w1 at *
    clear hne
    go_wp2_with fail
    refine (HT w1 (H.out.below L1.out)).out.mono ?_
    rintro e wx ⟨rfl, hb⟩
    have LX := Lib.hid (L1.out.trans (hb.mono L1.out.size))
    clear hb L1 B1 HT
    go_wp2_with fail
    go_ret
    exact ⟨xs, rfl, H.out.below LX.out, rfl, But.of_below LX.out⟩
  · obtain ⟨y, hy, rfl⟩ : ∃ y, xs[j]? = some y ∧ y.z = y0 := by
      rw [List.getElem?_map] at hy0
      obtain ⟨y, h1, h2⟩ := Option.map_eq_some_iff.1 hy0
      exact ⟨y, h1, h2⟩
    have HY := Lib.hid hy
    have hj0 : (0 : Int) ≤ (j : Int) := by omega
    have hj1 : (j : Int) < (k.n : Int) := by have := (List.getElem?_eq_some_iff.1 hy).1; have := H.out.len; omega
    have hjn : ((j : Int) != -1) = true := bne_iff_ne.2 (by omega)
    have hjn2 : ((j : Int) == -1) = false := beq_eq_false_iff_ne.2 (by omega)
    have hatj := atI_of hy
    rw [ht] at HT ⊢
    clear hy hy0 hy1
    go_enter Try.func51, Try.ntmps51
    go_upto_region 1 with fail
    generalize w.alloc (.cells #[.int .i64 z.st, .int .i64 z.fc, .slice D z.data.length c] 42) = w1 at *
    go_wp2_with fail
    refine (HT w1 (H.out.below L1.out)).out.mono ?_
    rintro e wx ⟨rfl, hb⟩
    have LX := Lib.hid (L1.out.trans (hb.mono L1.out.size))
    have BX := Lib.hid (B1.out.below hb)
    clear hb L1 B1 HT
    go_upto_region 5 with fail
    have H2 : Hid (Desk k xs wx.drew) := H.out.below LX.out.drew
    have B2 : Hid (Box wx.drew w.heap.size z D c) := BX
    have L2 : Hid (Below w.heap.size w wx.drew) := LX.out.drew
    clear LX BX
    refine wp_region_held_drew (S := fun W => W.cell? ⟨k.g, 3, none⟩ = some (.slice (some ⟨k.q, k.o, none⟩) k.n k.c) ∧ (W.cell? ⟨w.heap.size, 0, none⟩ = some (.int .i64 z.st) ∧ W.cell? ⟨w.heap.size, 1, none⟩ = some (.int .i64 z.fc) ∧ W.cell? ⟨w.heap.size, 2, none⟩ = some (.slice D z.data.length c)))
      (by kernel_rfl) (by obtain ⟨a, b, d, -⟩ := hcellj _ j y HY.out H2.out B2.out; exact ⟨a, b⟩) (fun hHeld => ?_)
    generalize wx.drew = w2 at *
    (first | (refine Reg.take 0 (v := ?_) rfl (by kernel_rfl) (by kernel_rfl) (by kernel_rfl) (fun _ _ _ h => h) (Or.inl ⟨by rfl, ?_⟩) (by assumption) ?_; rotate_left; (focus ((intro W hSW); (try dsimp only at hSW); (try go_split_ands); go_simp; (try (with_reducible rfl)); done))) | (refine Reg.take 0 (v := undef) rfl (by kernel_rfl) (by kernel_rfl) (by kernel_rfl) (fun _ _ _ h => h) (Or.inr ⟨by rfl, rfl⟩) (by assumption) ?_))
    (try simp only [Act.put, List.setIfInBounds_toArray, List.set_cons_zero, List.set_cons_succ])
    (first | (refine Reg.take 1 (v := ?_) rfl (by kernel_rfl) (by kernel_rfl) (by kernel_rfl) (fun _ _ _ h => h) (Or.inl ⟨by rfl, ?_⟩) (by assumption) ?_; rotate_left; (focus ((intro W hSW); (try dsimp only at hSW); (try go_split_ands); go_simp; (try (with_reducible rfl)); done))) | (refine Reg.take 1 (v := undef) rfl (by kernel_rfl) (by kernel_rfl) (by kernel_rfl) (fun _ _ _ h => h) (Or.inr ⟨by rfl, rfl⟩) (by assumption) ?_))
    (try simp only [Act.put, List.setIfInBounds_toArray, List.set_cons_zero, List.set_cons_succ])
    (first | (refine Reg.take 2 (v := ?_) rfl (by kernel_rfl) (by kernel_rfl) (by kernel_rfl) (fun _ _ _ h => h) (Or.inl ⟨by rfl, ?_⟩) (by assumption) ?_; rotate_left; (focus ((intro W hSW); (try dsimp only at hSW); (try go_split_ands); go_simp; (try (with_reducible rfl)); done))) | (refine Reg.take 2 (v := undef) rfl (by kernel_rfl) (by kernel_rfl) (by kernel_rfl) (fun _ _ _ h => h) (Or.inr ⟨by rfl, rfl⟩) (by assumption) ?_))
    (try simp only [Act.put, List.setIfInBounds_toArray, List.set_cons_zero, List.set_cons_succ])
    (first | (refine Reg.take 3 (v := ?_) rfl (by kernel_rfl) (by kernel_rfl) (by kernel_rfl) (fun _ _ _ h => h) (Or.inl ⟨by rfl, ?_⟩) (by assumption) ?_; rotate_left; (focus ((intro W hSW); (try dsimp only at hSW); (try go_split_ands); go_simp; (try (with_reducible rfl)); done))) | (refine Reg.take 3 (v := undef) rfl (by kernel_rfl) (by kernel_rfl) (by kernel_rfl) (fun _ _ _ h => h) (Or.inr ⟨by rfl, rfl⟩) (by assumption) ?_))
    (try simp only [Act.put, List.setIfInBounds_toArray, List.set_cons_zero, List.set_cons_succ])
    (first | (refine Reg.take 4 (v := ?_) rfl (by kernel_rfl) (by kernel_rfl) (by kernel_rfl) (fun _ _ _ h => h) (Or.inl ⟨by rfl, ?_⟩) (by assumption) ?_; rotate_left; (focus ((intro W hSW); (try dsimp only at hSW); (try go_split_ands); go_simp; (try (with_reducible rfl)); done))) | (refine Reg.take 4 (v := undef) rfl (by kernel_rfl) (by kernel_rfl) (by kernel_rfl) (fun _ _ _ h => h) (Or.inr ⟨by rfl, rfl⟩) (by assumption) ?_))
    (try simp only [Act.put, List.setIfInBounds_toArray, List.set_cons_zero, List.set_cons_succ])
    (first | (refine Reg.take 5 (v := ?_) rfl (by kernel_rfl) (by kernel_rfl) (by kernel_rfl) (fun _ _ _ h => h) (Or.inl ⟨by rfl, ?_⟩) (by assumption) ?_; rotate_left; (focus ((intro W hSW); (try dsimp only at hSW); (try go_split_ands); go_simp; (try (with_reducible rfl)); done))) | (refine Reg.take 5 (v := undef) rfl (by kernel_rfl) (by kernel_rfl) (by kernel_rfl) (fun _ _ _ h => h) (Or.inr ⟨by rfl, rfl⟩) (by assumption) ?_))
    (try simp only [Act.put, List.setIfInBounds_toArray, List.set_cons_zero, List.set_cons_succ])
    (first | (refine Reg.take 6 (v := ?_) rfl (by kernel_rfl) (by kernel_rfl) (by kernel_rfl) (fun _ _ _ h => h) (Or.inl ⟨by rfl, ?_⟩) (by assumption) ?_; rotate_left; (focus ((intro W hSW); (try dsimp only at hSW); (try go_split_ands); go_simp; (try (with_reducible rfl)); done))) | (refine Reg.take 6 (v := undef) rfl (by kernel_rfl) (by kernel_rfl) (by kernel_rfl) (fun _ _ _ h => h) (Or.inr ⟨by rfl, rfl⟩) (by assumption) ?_))
    (try simp only [Act.put, List.setIfInBounds_toArray, List.set_cons_zero, List.set_cons_succ])
    (first | (refine Reg.take 7 (v := ?_) rfl (by kernel_rfl) (by kernel_rfl) (by kernel_rfl) (fun _ _ _ h => h) (Or.inl ⟨by rfl, ?_⟩) (by assumption) ?_; rotate_left; (focus ((intro W hSW); (try dsimp only at hSW); (try go_split_ands); go_simp; (try (with_reducible rfl)); done))) | (refine Reg.take 7 (v := undef) rfl (by kernel_rfl) (by kernel_rfl) (by kernel_rfl) (fun _ _ _ h => h) (Or.inr ⟨by rfl, rfl⟩) (by assumption) ?_))
    (try simp only [Act.put, List.setIfInBounds_toArray, List.set_cons_zero, List.set_cons_succ])
    (first | (refine Reg.take 8 (v := ?_) rfl (by kernel_rfl) (by kernel_rfl) (by kernel_rfl) (fun _ _ _ h => h) (Or.inl ⟨by rfl, ?_⟩) (by assumption) ?_; rotate_left; (focus ((intro W hSW); (try dsimp only at hSW); (try go_split_ands); go_simp; (try (with_reducible rfl)); done))) | (refine Reg.take 8 (v := undef) rfl (by kernel_rfl) (by kernel_rfl) (by kernel_rfl) (fun _ _ _ h => h) (Or.inr ⟨by rfl, rfl⟩) (by assumption) ?_))
    (try simp only [Act.put, List.setIfInBounds_toArray, List.set_cons_zero, List.set_cons_succ])
    (first | (refine Reg.take 9 (v := ?_) rfl (by kernel_rfl) (by kernel_rfl) (by kernel_rfl) (fun _ _ _ h => h) (Or.inl ⟨by rfl, ?_⟩) (by assumption) ?_; rotate_left; (focus ((intro W hSW); (try dsimp only at hSW); (try go_split_ands); go_simp; (try (with_reducible rfl)); done))) | (refine Reg.take 9 (v := undef) rfl (by kernel_rfl) (by kernel_rfl) (by kernel_rfl) (fun _ _ _ h => h) (Or.inr ⟨by rfl, rfl⟩) (by assumption) ?_))
    (try simp only [Act.put, List.setIfInBounds_toArray, List.set_cons_zero, List.set_cons_succ])
    (first | (refine Reg.take 10 (v := ?_) rfl (by kernel_rfl) (by kernel_rfl) (by kernel_rfl) (fun _ _ _ h => h) (Or.inl ⟨by rfl, ?_⟩) (by assumption) ?_; rotate_left; (focus ((intro W hSW); (try dsimp only at hSW); (try go_split_ands); go_simp; (try (with_reducible rfl)); done))) | (refine Reg.take 10 (v := undef) rfl (by kernel_rfl) (by kernel_rfl) (by kernel_rfl) (fun _ _ _ h => h) (Or.inr ⟨by rfl, rfl⟩) (by assumption) ?_))
    (try simp only [Act.put, List.setIfInBounds_toArray, List.set_cons_zero, List.set_cons_succ])
    (first | (refine Reg.take 11 (v := ?_) rfl (by kernel_rfl) (by kernel_rfl) (by kernel_rfl) (fun _ _ _ h => h) (Or.inl ⟨by rfl, ?_⟩) (by assumption) ?_; rotate_left; (focus ((intro W hSW); (try dsimp only at hSW); (try go_split_ands); go_simp; (try (with_reducible rfl)); done))) | (refine Reg.take 11 (v := undef) rfl (by kernel_rfl) (by kernel_rfl) (by kernel_rfl) (fun _ _ _ h => h) (Or.inr ⟨by rfl, rfl⟩) (by assumption) ?_))
    (try simp only [Act.put, List.setIfInBounds_toArray, List.set_cons_zero, List.set_cons_succ])
    (first | (refine Reg.take 12 (v := ?_) rfl (by kernel_rfl) (by kernel_rfl) (by kernel_rfl) (fun _ _ _ h => h) (Or.inl ⟨by rfl, ?_⟩) (by assumption) ?_; rotate_left; (focus ((intro W hSW); (try dsimp only at hSW); (try go_split_ands); go_simp; (try (with_reducible rfl)); done))) | (refine Reg.take 12 (v := undef) rfl (by kernel_rfl) (by kernel_rfl) (by kernel_rfl) (fun _ _ _ h => h) (Or.inr ⟨by rfl, rfl⟩) (by assumption) ?_))
    (try simp only [Act.put, List.setIfInBounds_toArray, List.set_cons_zero, List.set_cons_succ])
    refine Reg.step 13 rfl (by kernel_rfl) (by rfl) (fun K hK => ?_)
    obtain ⟨a1, a2, ⟨a3, a4, a5⟩, a6, a7, a8⟩ := hcellj _ j y HY.out H2.out B2.out
    go_simp
    clear a3 a4 a5 a6 a7 a8
    refine hK.out _ _ ⟨a1, a2⟩ (fun hHeld2 => ?_)
    clear hK K a1 a2 hHeld2
    (try simp only [Act.put, List.setIfInBounds_toArray, List.set_cons_zero, List.set_cons_succ])
    refine Reg.step 14 rfl (by kernel_rfl) (by rfl) (fun K hK => ?_)
    go_simp
    refine (HC y.z y.D y.c w2 (H2.out.data_at HY.out)).out.mono ?_
    rintro e w3 ⟨X, q, rfl, hX, hb⟩
    unfold zv
    have HVL : Hid ((closeZ y.z).data.length ≤ 140737488351232) := by
      show _ ≤ _
      have := (H2.out.data_at HY.out).big
      unfold closeZ
      rcases (y.z.st == 0 || y.z.st == 4)
      · rcases (y.z.data.length == 0) <;> exact this
      · exact Nat.zero_le _
    have HMP : Hid (∀ X q, (((xs.set j ⟨closeZ y.z, X, q⟩).set i ⟨z, D, c⟩).map Zv.z) = (closeAt (xs.map Zv.z) j).set i z) := by
      show ∀ _, _
      intro X q
      unfold closeAt
      rw [hjn2, cond_false, Int.toNat_natCast, hatj, map_set, map_set]
    generalize closeZ y.z = v at *
    have RX := Lib.hid hX
    have H3 := Lib.hid (H2.out.below hb)
    have B3 := Lib.hid (B2.out.below hb)
    have L3 := Lib.hid (L2.out.trans (hb.mono L2.out.size))
    clear hX hb H2 B2 L2
    refine hK.out _ _ (by obtain ⟨a, b, d, -⟩ := hcellj _ j y HY.out H3.out B3.out; exact ⟨a, b⟩) (fun hHeld2 => ?_)
    clear hK K
    (try simp only [Act.put, List.setIfInBounds_toArray, List.set_cons_zero, List.set_cons_succ])
    have RX3 := Lib.hid (gave_row RX.out (by have := RX.out.len; have := HVL.out; omega)).1
    have HSj := Lib.hid (H3.out.store ⟨v, X, q⟩ HY.out RX3.out)
    have HZj := Lib.hid (Box.but B3.out (But.set3 (But.refl k.q w3) (k.o + j * 3) (k.o + j * 3 + 1) (k.o + j * 3 + 2) (.int .i64 v.st) (.int .i64 v.fc) (.slice X v.data.length q)) hq.out)
    have HBj := Lib.hid (But.set3 (But.of_below (q := k.q) L3.out) (k.o + j * 3) (k.o + j * 3 + 1) (k.o + j * 3 + 2) (.int .i64 v.st) (.int .i64 v.fc) (.slice X v.data.length q))
    have RZ3 := Lib.hid (R.out.below L3.out)
    (first | (refine Reg.take 15 (v := ?_) rfl (by kernel_rfl) (by kernel_rfl) (by kernel_rfl) (fun _ _ _ h => h) (Or.inl ⟨by rfl, ?_⟩) (by assumption) ?_; rotate_left; (focus ((intro W hSW); (try dsimp only at hSW); (try go_split_ands); go_simp; (try (with_reducible rfl)); done))) | (refine Reg.take 15 (v := undef) rfl (by kernel_rfl) (by kernel_rfl) (by kernel_rfl) (fun _ _ _ h => h) (Or.inr ⟨by rfl, rfl⟩) (by assumption) ?_))
    (try simp only [Act.put, List.setIfInBounds_toArray, List.set_cons_zero, List.set_cons_succ])
    (first | (refine Reg.take 16 (v := ?_) rfl (by kernel_rfl) (by kernel_rfl) (by kernel_rfl) (fun _ _ _ h => h) (Or.inl ⟨by rfl, ?_⟩) (by assumption) ?_; rotate_left; (focus ((intro W hSW); (try dsimp only at hSW); (try go_split_ands); go_simp; (try (with_reducible rfl)); done))) | (refine Reg.take 16 (v := undef) rfl (by kernel_rfl) (by kernel_rfl) (by kernel_rfl) (fun _ _ _ h => h) (Or.inr ⟨by rfl, rfl⟩) (by assumption) ?_))
    (try simp only [Act.put, List.setIfInBounds_toArray, List.set_cons_zero, List.set_cons_succ])
    (first | (refine Reg.take 17 (v := ?_) rfl (by kernel_rfl) (by kernel_rfl) (by kernel_rfl) (fun _ _ _ h => h) (Or.inl ⟨by rfl, ?_⟩) (by assumption) ?_; rotate_left; (focus ((intro W hSW); (try dsimp only at hSW); (try go_split_ands); go_simp; (try (with_reducible rfl)); done))) | (refine Reg.take 17 (v := undef) rfl (by kernel_rfl) (by kernel_rfl) (by kernel_rfl) (fun _ _ _ h => h) (Or.inr ⟨by rfl, rfl⟩) (by assumption) ?_))
    (try simp only [Act.put, List.setIfInBounds_toArray, List.set_cons_zero, List.set_cons_succ])
    (first | (refine Reg.take 18 (v := ?_) rfl (by kernel_rfl) (by kernel_rfl) (by kernel_rfl) (fun _ _ _ h => h) (Or.inl ⟨by rfl, ?_⟩) (by assumption) ?_; rotate_left; (focus ((intro W hSW); (try dsimp only at hSW); (try go_split_ands); go_simp; (try (with_reducible rfl)); done))) | (refine Reg.take 18 (v := undef) rfl (by kernel_rfl) (by kernel_rfl) (by kernel_rfl) (fun _ _ _ h => h) (Or.inr ⟨by rfl, rfl⟩) (by assumption) ?_))
    (try simp only [Act.put, List.setIfInBounds_toArray, List.set_cons_zero, List.set_cons_succ])
    refine Reg.step 19 rfl (by kernel_rfl) (by rfl) (fun K hK => ?_)
    obtain ⟨a1, a2, ⟨a3, a4, a5⟩, a6, a7, a8⟩ := hcellj _ j y HY.out H3.out B3.out
    go_simp
    have RZ4 := Lib.hid (Row.setNot (Row.setNot (Row.setNot RZ3.out a3 (int_not _) (.int .i64 v.st)) ((World.cell?_setCell_other _ _ _ _ (by simp)).trans a4) (int_not _) (.int .i64 v.fc)) ((World.cell?_setCell_other _ _ _ _ (by simp)).trans ((World.cell?_setCell_other _ _ _ _ (by simp)).trans a5)) (slice_not _ _ _) (.slice X v.data.length q))
    refine hK.out _ _ ⟨HSj.out.cells.2.2.2.1, HZj.out.cells⟩ (fun hHeld2 => ?_)
    clear hK K
    (try simp only [Act.put, List.setIfInBounds_toArray, List.set_cons_zero, List.set_cons_succ])
    refine wpAnyH_done (by kernel_rfl) ?_ _
    clear a1 a2 a3 a4 a5 a6 a7 a8 hHeld hHeld2
    generalize ((w3.setCell ⟨k.q, k.o + j * 3, none⟩ (.int .i64 v.st)).setCell ⟨k.q, k.o + j * 3 + 1, none⟩ (.int .i64 v.fc)).setCell ⟨k.q, k.o + j * 3 + 2, none⟩ (.slice X v.data.length q) = w4 at *
    go_upto_region 6 with fail
    have H2 : Hid (Desk k (xs.set j ⟨v, X, q⟩) w4.drew) := HSj.out.below (Below.refl _ w4).drew
    have B2 : Hid (Box w4.drew w.heap.size z D c) := HZj
    have R2 : Hid (Row cb w4.drew D z.data.length c z.data) := RZ4.out.drew
    have U2 : Hid (But k.q w w4.drew) := HBj.out.trans (But.of_below (Below.refl _ w4).drew)
    obtain ⟨x2, hx2⟩ : ∃ x2, (xs.set j ⟨v, X, q⟩)[i]? = some x2 := ⟨_, List.getElem?_eq_getElem (by rw [List.length_set]; exact hxl)⟩
    clear HSj HZj HBj RZ4 RZ3 H3 B3 L3 RX RX3
    refine wp_region_held_drew (S := fun W => W.cell? ⟨k.g, 3, none⟩ = some (.slice (some ⟨k.q, k.o, none⟩) k.n k.c) ∧ (W.cell? ⟨w.heap.size, 0, none⟩ = some (.int .i64 z.st) ∧ W.cell? ⟨w.heap.size, 1, none⟩ = some (.int .i64 z.fc) ∧ W.cell? ⟨w.heap.size, 2, none⟩ = some (.slice D z.data.length c)))
      (by kernel_rfl) ⟨(hcell _ _ _ hx2 H2.out B2.out).1, (hcell _ _ _ hx2 H2.out B2.out).2.1⟩ (fun hHeld => ?_)
    generalize w4.drew = w2 at *
    have HS := Lib.hid (H2.out.store ⟨z, D, c⟩ hx2 R2.out)
    have HZ := Lib.hid (Box.but B2.out (But.set3 (But.refl k.q w2) (k.o + i * 3) (k.o + i * 3 + 1) (k.o + i * 3 + 2) (.int .i64 z.st) (.int .i64 z.fc) (.slice D z.data.length c)) hq.out)
    have HB := Lib.hid (But.set3 U2.out (k.o + i * 3) (k.o + i * 3 + 1) (k.o + i * 3 + 2) (.int .i64 z.st) (.int .i64 z.fc) (.slice D z.data.length c))
    obtain ⟨d3, q0, q1, s0, s1, s2⟩ := hcell _ _ _ hx2 H2.out B2.out
    (first | (refine Reg.take 0 (v := ?_) rfl (by kernel_rfl) (by kernel_rfl) (by kernel_rfl) (fun _ _ _ h => h) (Or.inl ⟨by rfl, ?_⟩) (by assumption) ?_; rotate_left; (focus ((intro W hSW); (try dsimp only at hSW); (try go_split_ands); go_simp; (try (with_reducible rfl)); done))) | (refine Reg.take 0 (v := undef) rfl (by kernel_rfl) (by kernel_rfl) (by kernel_rfl) (fun _ _ _ h => h) (Or.inr ⟨by rfl, rfl⟩) (by assumption) ?_))
    (try simp only [Act.put, List.setIfInBounds_toArray, List.set_cons_zero, List.set_cons_succ])
    (first | (refine Reg.take 1 (v := ?_) rfl (by kernel_rfl) (by kernel_rfl) (by kernel_rfl) (fun _ _ _ h => h) (Or.inl ⟨by rfl, ?_⟩) (by assumption) ?_; rotate_left; (focus ((intro W hSW); (try dsimp only at hSW); (try go_split_ands); go_simp; (try (with_reducible rfl)); done))) | (refine Reg.take 1 (v := undef) rfl (by kernel_rfl) (by kernel_rfl) (by kernel_rfl) (fun _ _ _ h => h) (Or.inr ⟨by rfl, rfl⟩) (by assumption) ?_))
    (try simp only [Act.put, List.setIfInBounds_toArray, List.set_cons_zero, List.set_cons_succ])
    (first | (refine Reg.take 2 (v := ?_) rfl (by kernel_rfl) (by kernel_rfl) (by kernel_rfl) (fun _ _ _ h => h) (Or.inl ⟨by rfl, ?_⟩) (by assumption) ?_; rotate_left; (focus ((intro W hSW); (try dsimp only at hSW); (try go_split_ands); go_simp; (try (with_reducible rfl)); done))) | (refine Reg.take 2 (v := undef) rfl (by kernel_rfl) (by kernel_rfl) (by kernel_rfl) (fun _ _ _ h => h) (Or.inr ⟨by rfl, rfl⟩) (by assumption) ?_))
    (try simp only [Act.put, List.setIfInBounds_toArray, List.set_cons_zero, List.set_cons_succ])
    (first | (refine Reg.take 3 (v := ?_) rfl (by kernel_rfl) (by kernel_rfl) (by kernel_rfl) (fun _ _ _ h => h) (Or.inl ⟨by rfl, ?_⟩) (by assumption) ?_; rotate_left; (focus ((intro W hSW); (try dsimp only at hSW); (try go_split_ands); go_simp; (try (with_reducible rfl)); done))) | (refine Reg.take 3 (v := undef) rfl (by kernel_rfl) (by kernel_rfl) (by kernel_rfl) (fun _ _ _ h => h) (Or.inr ⟨by rfl, rfl⟩) (by assumption) ?_))
    (try simp only [Act.put, List.setIfInBounds_toArray, List.set_cons_zero, List.set_cons_succ])
    (first | (refine Reg.take 4 (v := ?_) rfl (by kernel_rfl) (by kernel_rfl) (by kernel_rfl) (fun _ _ _ h => h) (Or.inl ⟨by rfl, ?_⟩) (by assumption) ?_; rotate_left; (focus ((intro W hSW); (try dsimp only at hSW); (try go_split_ands); go_simp; (try (with_reducible rfl)); done))) | (refine Reg.take 4 (v := undef) rfl (by kernel_rfl) (by kernel_rfl) (by kernel_rfl) (fun _ _ _ h => h) (Or.inr ⟨by rfl, rfl⟩) (by assumption) ?_))
    (try simp only [Act.put, List.setIfInBounds_toArray, List.set_cons_zero, List.set_cons_succ])
    (first | (refine Reg.take 5 (v := ?_) rfl (by kernel_rfl) (by kernel_rfl) (by kernel_rfl) (fun _ _ _ h => h) (Or.inl ⟨by rfl, ?_⟩) (by assumption) ?_; rotate_left; (focus ((intro W hSW); (try dsimp only at hSW); (try go_split_ands); go_simp; (try (with_reducible rfl)); done))) | (refine Reg.take 5 (v := undef) rfl (by kernel_rfl) (by kernel_rfl) (by kernel_rfl) (fun _ _ _ h => h) (Or.inr ⟨by rfl, rfl⟩) (by assumption) ?_))
    (try simp only [Act.put, List.setIfInBounds_toArray, List.set_cons_zero, List.set_cons_succ])
    (first | (refine Reg.take 6 (v := ?_) rfl (by kernel_rfl) (by kernel_rfl) (by kernel_rfl) (fun _ _ _ h => h) (Or.inl ⟨by rfl, ?_⟩) (by assumption) ?_; rotate_left; (focus ((intro W hSW); (try dsimp only at hSW); (try go_split_ands); go_simp; (try (with_reducible rfl)); done))) | (refine Reg.take 6 (v := undef) rfl (by kernel_rfl) (by kernel_rfl) (by kernel_rfl) (fun _ _ _ h => h) (Or.inr ⟨by rfl, rfl⟩) (by assumption) ?_))
    (try simp only [Act.put, List.setIfInBounds_toArray, List.set_cons_zero, List.set_cons_succ])
    (first | (refine Reg.take 7 (v := ?_) rfl (by kernel_rfl) (by kernel_rfl) (by kernel_rfl) (fun _ _ _ h => h) (Or.inl ⟨by rfl, ?_⟩) (by assumption) ?_; rotate_left; (focus ((intro W hSW); (try dsimp only at hSW); (try go_split_ands); go_simp; (try (with_reducible rfl)); done))) | (refine Reg.take 7 (v := undef) rfl (by kernel_rfl) (by kernel_rfl) (by kernel_rfl) (fun _ _ _ h => h) (Or.inr ⟨by rfl, rfl⟩) (by assumption) ?_))
    (try simp only [Act.put, List.setIfInBounds_toArray, List.set_cons_zero, List.set_cons_succ])
    refine Reg.step 8 rfl (by kernel_rfl) (by rfl) (fun K hK => ?_)
    obtain ⟨g0, g1, g2⟩ := q1
    go_simp
    refine hK.out _ _ ⟨HS.out.cells.2.2.2.1, HZ.out.cells⟩ (fun hHeld2 => ?_)
    clear hK K
    (try simp only [Act.put, List.setIfInBounds_toArray, List.set_cons_zero, List.set_cons_succ])
    refine wpAnyH_done (by kernel_rfl) ?_ _
    clear d3 q0 g0 g1 g2 s0 s1 s2 hHeld hHeld2
    generalize ((w2.setCell ⟨k.q, k.o + i * 3, none⟩ (.int .i64 z.st)).setCell ⟨k.q, k.o + i * 3 + 1, none⟩ (.int .i64 z.fc)).setCell ⟨k.q, k.o + i * 3 + 2, none⟩ (.slice D z.data.length c) = w9 at *
    go_wp2_with fail
    go_ret
    exact ⟨_, rfl, HS.out, HMP.out X q, HB.out⟩
end Zns
end Go.Proofs.Ytbmblgjilmgkeaa
