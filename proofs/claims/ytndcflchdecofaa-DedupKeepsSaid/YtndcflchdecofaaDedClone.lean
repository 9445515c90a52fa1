/-
  WALKS: slices.Clone of answers; what is known of one, copied whole (dedup.clonedSeen).
-/
import Derived.Test.YtndcflchdecofaaDedMsg
import Derived.Test.YtndcflchdecofaaDedInsC
namespace Go.Proofs.Ytndcflchdecofaa
open Go.RowKit Mem Box
namespace Ded
open Net (Mp Mx MAt mxv cellsM)

theorem rowS_none {α : Type} {cells : α → List Value} {k : Nat} {w : World} {n c : Nat} {l : List α} (h : RowS cells k w none n c l) : n = 0 ∧ l = [] := by
  have hn : n = 0 := by
    rcases Nat.eq_zero_or_pos n with h0 | h0
    · exact h0
    · obtain ⟨b, o, e, -⟩ := h.at_ h0
      cases e
  exact ⟨hn, List.eq_nil_of_length_eq_zero (by rw [h.len, hn])⟩
theorem run_eql_nilD (w : World) (A : Option Addr) (n c : Nat) : (binOp .eql 49 (.slice A n c) (.slice none 0 0)).run Try.prog w = .ok (.bool A.isNone) w :=
  Go.run_eql_slice_nil w _ _ A n c Try.underlying49
set_option maxRecDepth 100000 in
set_option maxHeartbeats 1600000 in
theorem cloneD_any {A : Option Addr} {n c : Nat} {l : List Dx} {w : World} (h : RowS cellsD 7 w A n c l) (hn : n ≤ 1000000) :
    Calls Try.prog 42 #[.slice A n c] w fun e w' => (∃ B d, e = .returned (.slice B n d) ∧ OwnS.Owns cellsD 7 56 w.heap.size w' (.slice B n d) n l) ∧ Below w.heap.size w w' := by
  have HR := Lib.hid h
  clear h
  have hq := fun w => run_eql_nilD w A n c
  rcases A with _ | a
  · obtain ⟨rfl, rfl⟩ := rowS_none HR.out
    have hd : (none : Option Addr).isNone = true := rfl
    rw [hd] at hq
    go_enter Try.func42, Try.ntmps42
    go_wp2
    go_ret
    exact ⟨⟨_, _, rfl, OwnS.Owns.nil _ _ _ _ _⟩, Below.refl _ _⟩
  · have hd : (some a).isNone = false := rfl
    rw [hd] at hq
    have hmade : Hid (OwnS.Owns cellsD 7 56 w.heap.size (w.alloc (.cells #[] 56)) (.slice (some ⟨w.heap.size, 0, none⟩) 0 0) 0 []) := ⟨World.ownsRow_made w #[] 0 (Nat.le_refl _) (Nat.zero_le _) (by simp), rfl⟩
    go_enter Try.func42, Try.ntmps42
    go_wp2_with (at_builtin
                 refine OwnS.wpList_append fitD Try.underlying49 info_said rfl (by omega) rfl (.tmp 5) (.tmp 6) rfl rfl w.heap.size _ 0 [] rfl hmade.out (some a) n c l rfl (Box.RowS.alloc HR.out _) (by omega) (by simp) ?_
                 intro A' c' w' hown' hb' _
                 have O := Lib.hid (show OwnS.Owns cellsD 7 56 w.heap.size w' (.slice A' n c') n l by simpa using hown')
                 have B := Lib.hid (OwnS.below_row hmade.out hb' (by simp))
                 clear hown' hb')
    go_ret
    exact ⟨⟨_, _, rfl, O.out⟩, ((Below.refl _ w).alloc (Nat.le_refl _) _).trans B.out⟩

/-! ### A message written into a row of answers -/
def set6W (w : World) (g k : Nat) (y : Mx) : World := ((((((w.setCell ⟨g, k * 7 + 1, none⟩ (.int .i64 y.k)).setCell ⟨g, k * 7 + 2, none⟩ (.int .i64 y.f)).setCell ⟨g, k * 7 + 3, none⟩ (.int .i64 y.t)).setCell ⟨g, k * 7 + 4, none⟩ (.int .i64 y.i)).setCell ⟨g, k * 7 + 5, none⟩ (.slice y.A y.n y.c)).setCell ⟨g, k * 7 + 6, none⟩ (.slice y.B y.m y.d))
theorem put6 {base g : Nat} {w : World} {n c : Nat} {l : List Dx} (h : OwnS.Owns cellsD 7 56 base w (.slice (some ⟨g, 0, none⟩) n c) n l) {k : Nat} {x : Dx} (hx : l[k]? = some x) (y : Mx) : OwnS.Owns cellsD 7 56 base (set6W w g k y) (.slice (some ⟨g, 0, none⟩) n c) n (l.set k ⟨x.id, y⟩) := by
  have hk := (List.getElem?_eq_some_iff.1 hx).1
  have e1 := h.put fitD hx 1 (.int .i64 y.k) ⟨x.id, ⟨y.k, x.m.f, x.m.t, x.m.i, x.m.A, x.m.n, x.m.c, [], x.m.B, x.m.m, x.m.d, []⟩⟩ (by omega) rfl
  have e2 := e1.put fitD (OwnS.Owns.set_at hk _) 2 (.int .i64 y.f) ⟨x.id, ⟨y.k, y.f, x.m.t, x.m.i, x.m.A, x.m.n, x.m.c, [], x.m.B, x.m.m, x.m.d, []⟩⟩ (by omega) rfl
  rw [List.set_set] at e2
  have e3 := e2.put fitD (OwnS.Owns.set_at hk _) 3 (.int .i64 y.t) ⟨x.id, ⟨y.k, y.f, y.t, x.m.i, x.m.A, x.m.n, x.m.c, [], x.m.B, x.m.m, x.m.d, []⟩⟩ (by omega) rfl
  rw [List.set_set] at e3
  have e4 := e3.put fitD (OwnS.Owns.set_at hk _) 4 (.int .i64 y.i) ⟨x.id, ⟨y.k, y.f, y.t, y.i, x.m.A, x.m.n, x.m.c, [], x.m.B, x.m.m, x.m.d, []⟩⟩ (by omega) rfl
  rw [List.set_set] at e4
  have e5 := e4.put fitD (OwnS.Owns.set_at hk _) 5 (.slice y.A y.n y.c) ⟨x.id, ⟨y.k, y.f, y.t, y.i, y.A, y.n, y.c, [], x.m.B, x.m.m, x.m.d, []⟩⟩ (by omega) rfl
  rw [List.set_set] at e5
  have e6 := e5.put fitD (OwnS.Owns.set_at hk _) 6 (.slice y.B y.m y.d) ⟨x.id, y⟩ (by omega) rfl
  rw [List.set_set] at e6
  exact e6
theorem mov6 (w : World) (g k : Nat) (y : Mx) : Mov [g] w (set6W w g k y) :=
  (((((Mov.set1 w (by simp) _ _).trans (Mov.set1 _ (by simp) _ _) (fun _ h => .inl h)).trans (Mov.set1 _ (by simp) _ _) (fun _ h => .inl h)).trans (Mov.set1 _ (by simp) _ _) (fun _ h => .inl h)).trans (Mov.set1 _ (by simp) _ _) (fun _ h => .inl h)).trans (Mov.set1 _ (by simp) _ _) (fun _ h => .inl h)
theorem set_next {α : Type} (ys : List α) (l : List α) {k : Nat} (hk : ys.length = k) {x : α} (hx : l[k]? = some x) (z : α) : (ys ++ l.drop k)[k]? = some x ∧ (ys ++ l.drop k).set k z = (ys ++ [z]) ++ l.drop (k + 1) := by
  subst hk
  have hlt := (List.getElem?_eq_some_iff.1 hx).1
  have e : l.drop ys.length = x :: l.drop (ys.length + 1) := by
    rw [List.drop_eq_getElem_cons hlt]
    congr 1
    exact (List.getElem?_eq_some_iff.1 hx).2
  rw [e]
  refine ⟨by rw [List.getElem?_append_right (Nat.le_refl _), Nat.sub_self]; rfl, ?_⟩
  rw [List.set_append_right _ _ (Nat.le_refl _), Nat.sub_self, List.append_assoc]
  rfl
theorem seven_own {w : World} {base g : Nat} {n c : Nat} {l : List Dx} {k : Nat} {x : Dx} (h : OwnS.Owns cellsD 7 56 base w (.slice (some ⟨g, 0, none⟩) n c) n l) (hx : l[k]? = some x) : seven w g (k * 7) x :=
  ⟨h.cell fitD hx 0 _ rfl, h.cell fitD hx 1 _ rfl, h.cell fitD hx 2 _ rfl, h.cell fitD hx 3 _ rfl, h.cell fitD hx 4 _ rfl, h.cell fitD hx 5 _ rfl, h.cell fitD hx 6 _ rfl⟩
set_option maxRecDepth 100000 in
set_option maxHeartbeats 12800000 in
theorem clonedSeen_any {s : Sx} {w : World} (h : SeenAt w s) (hn : s.n ≤ 1000000) : Calls Try.prog 23 #[sxv s] w (GaveS w s.p) := by
  have H := Lib.hid h
  have HL := Lib.hid h.row.len
  have HC := Lib.hid (fun W (hW : Below w.heap.size w W) => cloneD_any (h.row.below hW) hn)
  have L1 : Hid (Below w.heap.size w ((w.alloc (.cells #[.int .i64 s.f, .int .i64 s.b, .slice s.A s.n s.c] 51)).alloc (.cells #[.int .i64 0, .int .i64 0, .slice none 0 0] 51))) := (((Below.refl _ w).alloc (by first | exact Nat.le_refl _ | (simp; try omega)) _).alloc (by first | exact Nat.le_refl _ | (simp; try omega)) _)
  have X1 : Hid (Cells ((w.alloc (.cells #[.int .i64 s.f, .int .i64 s.b, .slice s.A s.n s.c] 51)).alloc (.cells #[.int .i64 0, .int .i64 0, .slice none 0 0] 51)) (w.heap.size) 51 #[.int .i64 s.f, .int .i64 s.b, .slice s.A s.n s.c]) := by
    have := Cells.new w #[.int .i64 s.f, .int .i64 s.b, .slice s.A s.n s.c] 51
    (try simp only [World.size_alloc] at this)
    exact (Cells.alloc this _)
  have Z1 : Hid (Cells ((w.alloc (.cells #[.int .i64 s.f, .int .i64 s.b, .slice s.A s.n s.c] 51)).alloc (.cells #[.int .i64 0, .int .i64 0, .slice none 0 0] 51)) (w.heap.size + 1) 51 #[.int .i64 0, .int .i64 0, .slice none 0 0]) := by
    have := Cells.new (w.alloc (.cells #[.int .i64 s.f, .int .i64 s.b, .slice s.A s.n s.c] 51)) #[.int .i64 0, .int .i64 0, .slice none 0 0] 51
    (try simp only [World.size_alloc] at this)
    exact this
  have SZ : Hid (((w.alloc (.cells #[.int .i64 s.f, .int .i64 s.b, .slice s.A s.n s.c] 51)).alloc (.cells #[.int .i64 0, .int .i64 0, .slice none 0 0] 51)).heap.size = w.heap.size + 2) := by show _ = _; simp
  unfold sxv
  clear h
  go_enter Try.func23, Try.ntmps23
  go_upto_region 1 with fail
  generalize ((w.alloc (.cells #[.int .i64 s.f, .int .i64 s.b, .slice s.A s.n s.c] 51)).alloc (.cells #[.int .i64 0, .int .i64 0, .slice none 0 0] 51)) = w1 at *
  obtain ⟨m0, m1, m2⟩ := SBox.cells (x := s) X1.out
  obtain ⟨f0, f1, f2⟩ := three_free X1.out
  go_upto_region 2 with (go_at_call 42; refine (HC.out _ L1.out).mono ?_; rintro e w2 ⟨⟨B, d, rfl, hO⟩, hb⟩; have L2 := Lib.hid (L1.out.trans (hb.mono L1.out.size)); have X2 := Lib.hid (Cells.below X1.out hb); have Z2 := Lib.hid (Cells.below Z1.out hb); have O2 := Lib.hid (hO.mono L1.out.size); clear hb hO m0 m1 m2 f0 f1 f2; obtain ⟨m0, m1, m2⟩ := SBox.cells (x := s) X2.out; obtain ⟨f0, f1, f2⟩ := three_free X2.out)
  have bt : Mov [w.heap.size] w2 (w2.setCell ⟨w.heap.size, 2, none⟩ (.slice B s.n d)) := Mov.set1 w2 (by simp) 2 _
  have L3 := Lib.hid (L2.out.trans (bt.up L2.out.size (Nat.le_refl _)))
  have X3 : Hid (SBox (w2.setCell ⟨w.heap.size, 2, none⟩ (.slice B s.n d)) w.heap.size ⟨s.f, s.b, B, s.n, d, s.l⟩) := by show Cells _ _ _ _; simpa using Cells.set_ X2.out 2 (.slice B s.n d)
  have Z3 := Lib.hid (Cells.mov Z2.out bt (by simp))
  have O3 := Lib.hid ((Chg.mov X2.out bt).owns O2.out (by decide))
  clear bt m0 m1 m2 f0 f1 f2 L1 X1 Z1 L2 X2 Z2 O2 HC
  generalize w2.setCell ⟨w.heap.size, 2, none⟩ (.slice B s.n d) = w3 at *
  clear SZ w2 w1
  obtain ⟨m0, m1, m2⟩ := SBox.cells X3.out
  dsimp only at m0 m1 m2
  go_wp2_with fail
  clear m0 m1 m2
  go_loopw [3, 11] (fun _ i wr => ∃ (k : Nat) (ys : List Dx), i = .int .i64 k ∧ k ≤ s.n ∧ ys.length = k ∧ Hid (ys.map Dx.p = (s.l.take k).map Dx.p) ∧ Hid (Below w.heap.size w wr) ∧ Hid (SBox wr w.heap.size ⟨s.f, s.b, B, s.n, d, s.l⟩) ∧ Hid (SBox wr (w.heap.size + 1) s0) ∧ Hid (OwnS.Owns cellsD 7 56 w.heap.size wr (.slice B s.n d) s.n (ys ++ s.l.drop k)) ∧ Hid (∀ y ∈ ys, OwnM w.heap.size wr y.m)) (fun _ i _ => s.n - (intOf i).toNat)
  case atStart => exact ⟨0, [], rfl, by omega, rfl, rfl, L3, X3, Z3, O3, fun y hy => by cases hy⟩
  case round =>
    obtain ⟨k, ys, rfl, hk, hys, HP, L4, X4, Z4, O4, M4⟩ := hrel
    by_cases hlt : k < s.n
    · obtain ⟨x, hx, -⟩ := SaidAt.get H.out hlt
      obtain ⟨hget, hset⟩ := set_next ys s.l hys hx x
      have HS := Lib.hid (fun z => (set_next ys s.l hys hx z).2)
      have HG := Lib.hid hget
      obtain ⟨g, cur, hB, hbg, hcur, -⟩ := O4.out.place (by omega)
      have HGG := Lib.hid hbg
      have HX := Lib.hid hx
      have HM := Lib.hid (fun W (hW : Below w.heap.size w W) => clonedMsg_any ((H.out.at_ x (List.mem_of_getElem? hx)).below hW))
      have HNE : Hid (w.heap.size ≠ g ∧ w.heap.size + 1 ≠ g) := ⟨Cells.ne X4.out hcur (by decide), Cells.ne Z4.out hcur (by decide)⟩
      unfold mxv at HM
      subst hB
      have hk0 : (0 : Int) ≤ (k : Int) := by omega
      have hkn : (k : Int) < (s.n : Int) := by omega
      clear hx hget hset hcur hbg
      go_upto_region 5 with fail
      obtain ⟨w4, hw4⟩ : ∃ W, W = wr := ⟨_, rfl⟩
      subst hw4
      have L5 := Lib.hid L4.out.drew
      have X5 := Lib.hid (Cells.drew X4.out)
      have Z5 := Lib.hid (Cells.drew Z4.out)
      have O5 := Lib.hid (O4.out.drew)
      have M5 := Lib.hid (fun y hy => (M4.out y hy).below (Below.refl _ w4).drew)
      refine RegK.start (S := fun W => W.cell? ⟨w.heap.size, 2, none⟩ = some (.slice (some ⟨g, 0, none⟩) s.n d) ∧ seven W g (k * 7) x) 12 (by kernel_rfl) (⟨Cells.cell X5.out 2, seven_own O5.out HG.out⟩) (fun hHeld => ?_)
      generalize w4.drew = w5 at *
      clear L4 X4 Z4 O4 M4
      (first | (refine RegK.take 0 [12] (v := ?_) rfl (by kernel_rfl) (by kernel_rfl) (by kernel_rfl) (by kernel_rfl) rfl (by kernel_rfl) (fun _ _ _ h => h) (Or.inl ⟨by rfl, ?_⟩) (by assumption) ?_; rotate_left; (focus ((intro W hSW; (try unfold seven at hSW); (try dsimp only at hSW); (try go_split_ands); go_simp; (try (with_reducible rfl)); done)))) | (refine RegK.take 0 [12] (v := undef) rfl (by kernel_rfl) (by kernel_rfl) (by kernel_rfl) (by kernel_rfl) rfl (by kernel_rfl) (fun _ _ _ h => h) (Or.inr ⟨by rfl, rfl⟩) (by assumption) ?_))
      (try simp only [Act.put, List.setIfInBounds_toArray, List.set_cons_zero, List.set_cons_succ])
      (first | (refine RegK.take 1 [12] (v := ?_) rfl (by kernel_rfl) (by kernel_rfl) (by kernel_rfl) (by kernel_rfl) rfl (by kernel_rfl) (fun _ _ _ h => h) (Or.inl ⟨by rfl, ?_⟩) (by assumption) ?_; rotate_left; (focus ((intro W hSW; (try unfold seven at hSW); (try dsimp only at hSW); (try go_split_ands); go_simp; (try (with_reducible rfl)); done)))) | (refine RegK.take 1 [12] (v := undef) rfl (by kernel_rfl) (by kernel_rfl) (by kernel_rfl) (by kernel_rfl) rfl (by kernel_rfl) (fun _ _ _ h => h) (Or.inr ⟨by rfl, rfl⟩) (by assumption) ?_))
      (try simp only [Act.put, List.setIfInBounds_toArray, List.set_cons_zero, List.set_cons_succ])
      (first | (refine RegK.take 2 [12] (v := ?_) rfl (by kernel_rfl) (by kernel_rfl) (by kernel_rfl) (by kernel_rfl) rfl (by kernel_rfl) (fun _ _ _ h => h) (Or.inl ⟨by rfl, ?_⟩) (by assumption) ?_; rotate_left; (focus ((intro W hSW; (try unfold seven at hSW); (try dsimp only at hSW); (try go_split_ands); go_simp; (try (with_reducible rfl)); done)))) | (refine RegK.take 2 [12] (v := undef) rfl (by kernel_rfl) (by kernel_rfl) (by kernel_rfl) (by kernel_rfl) rfl (by kernel_rfl) (fun _ _ _ h => h) (Or.inr ⟨by rfl, rfl⟩) (by assumption) ?_))
      (try simp only [Act.put, List.setIfInBounds_toArray, List.set_cons_zero, List.set_cons_succ])
      (first | (refine RegK.take 3 [12] (v := ?_) rfl (by kernel_rfl) (by kernel_rfl) (by kernel_rfl) (by kernel_rfl) rfl (by kernel_rfl) (fun _ _ _ h => h) (Or.inl ⟨by rfl, ?_⟩) (by assumption) ?_; rotate_left; (focus ((intro W hSW; (try unfold seven at hSW); (try dsimp only at hSW); (try go_split_ands); go_simp; (try (with_reducible rfl)); done)))) | (refine RegK.take 3 [12] (v := undef) rfl (by kernel_rfl) (by kernel_rfl) (by kernel_rfl) (by kernel_rfl) rfl (by kernel_rfl) (fun _ _ _ h => h) (Or.inr ⟨by rfl, rfl⟩) (by assumption) ?_))
      (try simp only [Act.put, List.setIfInBounds_toArray, List.set_cons_zero, List.set_cons_succ])
      (first | (refine RegK.take 4 [12] (v := ?_) rfl (by kernel_rfl) (by kernel_rfl) (by kernel_rfl) (by kernel_rfl) rfl (by kernel_rfl) (fun _ _ _ h => h) (Or.inl ⟨by rfl, ?_⟩) (by assumption) ?_; rotate_left; (focus ((intro W hSW; (try unfold seven at hSW); (try dsimp only at hSW); (try go_split_ands); go_simp; (try (with_reducible rfl)); done)))) | (refine RegK.take 4 [12] (v := undef) rfl (by kernel_rfl) (by kernel_rfl) (by kernel_rfl) (by kernel_rfl) rfl (by kernel_rfl) (fun _ _ _ h => h) (Or.inr ⟨by rfl, rfl⟩) (by assumption) ?_))
      (try simp only [Act.put, List.setIfInBounds_toArray, List.set_cons_zero, List.set_cons_succ])
      (first | (refine RegK.take 5 [12] (v := ?_) rfl (by kernel_rfl) (by kernel_rfl) (by kernel_rfl) (by kernel_rfl) rfl (by kernel_rfl) (fun _ _ _ h => h) (Or.inl ⟨by rfl, ?_⟩) (by assumption) ?_; rotate_left; (focus ((intro W hSW; (try unfold seven at hSW); (try dsimp only at hSW); (try go_split_ands); go_simp; (try (with_reducible rfl)); done)))) | (refine RegK.take 5 [12] (v := undef) rfl (by kernel_rfl) (by kernel_rfl) (by kernel_rfl) (by kernel_rfl) rfl (by kernel_rfl) (fun _ _ _ h => h) (Or.inr ⟨by rfl, rfl⟩) (by assumption) ?_))
      (try simp only [Act.put, List.setIfInBounds_toArray, List.set_cons_zero, List.set_cons_succ])
      (first | (refine RegK.take 6 [12] (v := ?_) rfl (by kernel_rfl) (by kernel_rfl) (by kernel_rfl) (by kernel_rfl) rfl (by kernel_rfl) (fun _ _ _ h => h) (Or.inl ⟨by rfl, ?_⟩) (by assumption) ?_; rotate_left; (focus ((intro W hSW; (try unfold seven at hSW); (try dsimp only at hSW); (try go_split_ands); go_simp; (try (with_reducible rfl)); done)))) | (refine RegK.take 6 [12] (v := undef) rfl (by kernel_rfl) (by kernel_rfl) (by kernel_rfl) (by kernel_rfl) rfl (by kernel_rfl) (fun _ _ _ h => h) (Or.inr ⟨by rfl, rfl⟩) (by assumption) ?_))
      (try simp only [Act.put, List.setIfInBounds_toArray, List.set_cons_zero, List.set_cons_succ])
      (first | (refine RegK.take 7 [12] (v := ?_) rfl (by kernel_rfl) (by kernel_rfl) (by kernel_rfl) (by kernel_rfl) rfl (by kernel_rfl) (fun _ _ _ h => h) (Or.inl ⟨by rfl, ?_⟩) (by assumption) ?_; rotate_left; (focus ((intro W hSW; (try unfold seven at hSW); (try dsimp only at hSW); (try go_split_ands); go_simp; (try (with_reducible rfl)); done)))) | (refine RegK.take 7 [12] (v := undef) rfl (by kernel_rfl) (by kernel_rfl) (by kernel_rfl) (by kernel_rfl) rfl (by kernel_rfl) (fun _ _ _ h => h) (Or.inr ⟨by rfl, rfl⟩) (by assumption) ?_))
      (try simp only [Act.put, List.setIfInBounds_toArray, List.set_cons_zero, List.set_cons_succ])
      (first | (refine RegK.take 8 [12] (v := ?_) rfl (by kernel_rfl) (by kernel_rfl) (by kernel_rfl) (by kernel_rfl) rfl (by kernel_rfl) (fun _ _ _ h => h) (Or.inl ⟨by rfl, ?_⟩) (by assumption) ?_; rotate_left; (focus ((intro W hSW; (try unfold seven at hSW); (try dsimp only at hSW); (try go_split_ands); go_simp; (try (with_reducible rfl)); done)))) | (refine RegK.take 8 [12] (v := undef) rfl (by kernel_rfl) (by kernel_rfl) (by kernel_rfl) (by kernel_rfl) rfl (by kernel_rfl) (fun _ _ _ h => h) (Or.inr ⟨by rfl, rfl⟩) (by assumption) ?_))
      (try simp only [Act.put, List.setIfInBounds_toArray, List.set_cons_zero, List.set_cons_succ])
      refine RegK.step 9 rfl (by kernel_rfl) (by rfl) (fun K hK => ?_)
      go_simp
      refine (HM.out _ L5.out).mono ?_
      rintro e w6 ⟨z, rfl, hz, hO, hb⟩
      have L6 := Lib.hid (L5.out.trans (hb.mono L5.out.size))
      have X6 := Lib.hid (Cells.below X5.out hb)
      have Z6 := Lib.hid (Cells.below Z5.out hb)
      have O6 := Lib.hid (O5.out.below hb)
      have M6 := Lib.hid (fun y hy => (M5.out y hy).below hb)
      have N6 := Lib.hid (hO.mono L5.out.size)
      have HZ := Lib.hid hz
      clear hO hb hz L5 X5 Z5 O5 M5 HM hHeld
      have hHeld : w6.cell? ⟨w.heap.size, 2, none⟩ = some (.slice (some ⟨g, 0, none⟩) s.n d) ∧ seven w6 g (k * 7) x := ⟨Cells.cell X6.out 2, seven_own O6.out HG.out⟩
      refine hK.out _ _ (fun _ => hHeld) ?_
      clear hK K
      (try simp only [Act.put, List.setIfInBounds_toArray, List.set_cons_zero, List.set_cons_succ])
      unfold mxv
      (first | (refine RegK.take 10 [12, 11] (v := ?_) rfl (by kernel_rfl) (by kernel_rfl) (by kernel_rfl) (by kernel_rfl) rfl (by kernel_rfl) (fun _ _ _ h => h) (Or.inl ⟨by rfl, ?_⟩) (by assumption) ?_; rotate_left; (focus ((intro W hSW; (try unfold seven at hSW); (try dsimp only at hSW); (try go_split_ands); go_simp; (try (with_reducible rfl)); done)))) | (refine RegK.take 10 [12, 11] (v := undef) rfl (by kernel_rfl) (by kernel_rfl) (by kernel_rfl) (by kernel_rfl) rfl (by kernel_rfl) (fun _ _ _ h => h) (Or.inr ⟨by rfl, rfl⟩) (by assumption) ?_))
      (try simp only [Act.put, List.setIfInBounds_toArray, List.set_cons_zero, List.set_cons_succ])
      (first | (refine RegK.take 11 [12] (v := ?_) rfl (by kernel_rfl) (by kernel_rfl) (by kernel_rfl) (by kernel_rfl) rfl (by kernel_rfl) (fun _ _ _ h => h) (Or.inl ⟨by rfl, ?_⟩) (by assumption) ?_; rotate_left; (focus ((intro W hSW; (try unfold seven at hSW); (try dsimp only at hSW); (try go_split_ands); go_simp; (try (with_reducible rfl)); done)))) | (refine RegK.take 11 [12] (v := undef) rfl (by kernel_rfl) (by kernel_rfl) (by kernel_rfl) (by kernel_rfl) rfl (by kernel_rfl) (fun _ _ _ h => h) (Or.inr ⟨by rfl, rfl⟩) (by assumption) ?_))
      (try simp only [Act.put, List.setIfInBounds_toArray, List.set_cons_zero, List.set_cons_succ])
      obtain ⟨q0, q1, q2, q3, q4, q5, q6⟩ := seven_own O6.out HG.out
      have hfz := fun i => OwnS.Owns.free O6.out (by omega) i
      refine RegK.step 12 rfl (by kernel_rfl) (by rfl) (fun K hK => ?_)
      go_simp
      have bt := mov6 w6 g k z
      have O7 := Lib.hid (put6 O6.out HG.out z)
      obtain ⟨cur, hcur, -⟩ := OwnS.Owns.block O6.out (g := g) rfl
      have cg := Chg.mov hcur bt
      have L7 := Lib.hid (L6.out.trans (bt.up L6.out.size HGG.out))
      have X7 := Lib.hid (Cells.mov X6.out bt (by simpa using HNE.out.1))
      have Z7 := Lib.hid (Cells.mov Z6.out bt (by simpa using HNE.out.2))
      have M7 := Lib.hid (fun y hy => (M6.out y hy).chg cg (by decide) (by decide))
      have N7 := Lib.hid (N6.out.chg cg (by decide) (by decide))
      clear bt cg hcur cur q0 q1 q2 q3 q4 q5 q6 hfz L6 X6 Z6 O6 M6 N6 hHeld
      unfold set6W at O7 L7 X7 Z7 M7 N7
      generalize (((((w6.setCell ⟨g, k * 7 + 1, none⟩ (.int .i64 z.k)).setCell ⟨g, k * 7 + 2, none⟩ (.int .i64 z.f)).setCell ⟨g, k * 7 + 3, none⟩ (.int .i64 z.t)).setCell ⟨g, k * 7 + 4, none⟩ (.int .i64 z.i)).setCell ⟨g, k * 7 + 5, none⟩ (.slice z.A z.n z.c)).setCell ⟨g, k * 7 + 6, none⟩ (.slice z.B z.m z.d) = w7 at *
      refine hK.out _ _ (fun h => absurd rfl h) ?_
      clear hK K
      (try simp only [Act.put, List.setIfInBounds_toArray, List.set_cons_zero, List.set_cons_succ])
      refine RegK.done (by kernel_rfl) ?_ _
      go_wp2_with fail
      go_roundw
      case rel =>
        refine ⟨k + 1, ys ++ [⟨x.id, z⟩], by go_num, by omega, by rw [List.length_append, hys]; rfl, ?_, L7, X7, Z7, ?_, ?_⟩
        · show _ = _
          rw [List.map_append, HP.out, show (s.l.take (k + 1)) = s.l.take k ++ [x] by rw [List.take_add_one, HX.out]; rfl, List.map_append]
          have e : Dx.p ⟨x.id, z⟩ = x.p := by unfold Dx.p; rw [HZ.out]
          rw [List.map_cons, List.map_nil, e]
          rfl
        · rw [← HS.out]; exact O7
        · intro y hy
          rcases List.mem_append.1 hy with hy | hy
          · exact M7.out y hy
          · rw [List.mem_singleton.1 hy]; exact N7.out
      case measure => simp [intOf]; omega
    · have hkn : k = s.n := by omega
      subst hkn
      have hd0 : s.l.drop s.n = [] := List.drop_eq_nil_of_le (by rw [HL.out]; exact Nat.le_refl _)
      have OF : Hid (OwnS.Owns cellsD 7 56 w.heap.size wr (.slice B s.n d) s.n ys) := by
        have := O4.out
        rwa [hd0, List.append_nil] at this
      have PF : Hid (ys.map Dx.p = s.l.map Dx.p) := by
        have := HP.out
        rwa [List.take_of_length_le (by rw [HL.out]; exact Nat.le_refl _)] at this
      obtain ⟨m0, m1, m2⟩ := SBox.cells X4.out
      obtain ⟨z0, z1, z2⟩ := SBox.cells Z4.out
      obtain ⟨f0, f1, f2⟩ := three_free Z4.out
      dsimp only [s0] at m0 m1 m2 z0 z1 z2
      clear hd0 O4 HP
      go_wp2_with fail
      have bt := Mov.set3 wr (w.heap.size + 1) (.int .i64 s.f) (.int .i64 s.b) (.slice B s.n d)
      have cg := Chg.mov Z4.out bt
      refine bodyPost_ret_by (results_c0 rfl _ _ (w.heap.size + 1) _ _ _ _ rfl (Cells.set3 Z4.out (.int .i64 s.f) (.int .i64 s.b) (.slice B s.n d)) Try.underlying51 rfl (by kernel_rfl)) rfl ?_
      exact ⟨⟨s.f, s.b, B, s.n, d, ys⟩, rfl, by unfold Sx.p; rw [PF.out], ⟨cg.owns OF.out (by decide), fun y hy => (M4.out y hy).chg cg (by decide) (by decide)⟩, L4.out.trans (bt.up L4.out.size (by omega))⟩
end Ded
end Go.Proofs.Ytndcflchdecofaa
