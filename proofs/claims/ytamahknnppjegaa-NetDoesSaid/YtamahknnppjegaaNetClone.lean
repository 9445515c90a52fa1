/-
  WALKS: slices.Clone of numbers, of bytes; net.cloned.
-/
import Derived.Test.YtamahknnppjegaaNetMem
import Derived.Test.YtamahknnppjegaaRes
import Derived.Test.YtamahknnppjegaaRegK
namespace Go.Proofs.Ytamahknnppjegaa
open Go.RowKit Mem Box
namespace Net
open Wire (B8 info_int)

theorem run_eql_nilI (w : World) (A : Option Addr) (n c : Nat) : (binOp .eql 37 (.slice A n c) (.slice none 0 0)).run Try.prog w = .ok (.bool A.isNone) w :=
  Go.run_eql_slice_nil w _ _ A n c Try.underlying37
theorem run_eql_nilB (w : World) (A : Option Addr) (n c : Nat) : (binOp .eql 23 (.slice A n c) (.slice none 0 0)).run Try.prog w = .ok (.bool A.isNone) w :=
  Go.run_eql_slice_nil w _ _ A n c Try.underlying23
theorem row_none {α : Type} {f : α → Value} {w : World} {n c : Nat} {l : List α} (h : Row f w none n c l) : n = 0 ∧ l = [] := by
  have hn : n = 0 := by
    rcases Nat.eq_zero_or_pos n with h0 | h0
    · exact h0
    · obtain ⟨b, o, e, -⟩ := h.at_ h0
      cases e
  exact ⟨hn, List.eq_nil_of_length_eq_zero (by rw [h.len, hn])⟩

set_option maxRecDepth 100000 in
set_option maxHeartbeats 1600000 in
theorem cloneI_any {A : Option Addr} {n c : Nat} {l : List Int} {w : World} (h : Row ci w A n c l) (hn : n ≤ 17592186044416) :
    Calls Try.prog 64 #[.slice A n c] w fun e w' => (∃ B d, e = .returned (.slice B n d) ∧ Owns ci 3 w.heap.size w' (.slice B n d) n l) ∧ Below w.heap.size w w' := by
  have HR := Lib.hid h
  clear h
  have hq := fun w => run_eql_nilI w A n c
  rcases A with _ | a
  · obtain ⟨rfl, rfl⟩ := row_none HR.out
    have hd : (none : Option Addr).isNone = true := rfl
    rw [hd] at hq
    go_enter Try.func64, Try.ntmps64
    go_wp2
    go_ret
    exact ⟨⟨_, _, rfl, Owns.nil _ _ _ _⟩, Below.refl _ _⟩
  · have hd : (some a).isNone = false := rfl
    rw [hd] at hq
    have hmade : Hid (Owns ci 3 w.heap.size (w.alloc (.cells #[] 3)) (.slice (some ⟨w.heap.size, 0, none⟩) 0 0) 0 []) := World.ownsRow_made w #[] 0 (Nat.le_refl _) (Nat.zero_le _) (by simp)
    go_enter Try.func64, Try.ntmps64
    go_wp2_with (at_builtin
                 refine wpList_append_row ci_one Try.underlying37 info_int rfl rfl (.tmp 5) (.tmp 6) rfl rfl w.heap.size _ 0 [] rfl hmade.out (some a) n c l rfl (Row.alloc HR.out _) (by omega) (by omega) (by simp) ?_
                 intro A' c' w' hown' hb'
                 have O := Lib.hid (show Owns ci 3 w.heap.size w' (.slice A' n c') n l by simpa using hown')
                 have B := Lib.hid hb'
                 clear hown' hb')
    go_ret
    exact ⟨⟨_, _, rfl, O.out⟩, ((Below.refl _ w).alloc (Nat.le_refl _) _).trans B.out⟩
set_option maxRecDepth 100000 in
set_option maxHeartbeats 1600000 in
theorem cloneB_any {A : Option Addr} {n c : Nat} {l : List B8} {w : World} (h : Row cb w A n c l) :
    Calls Try.prog 65 #[.slice A n c] w fun e w' => (∃ B d, e = .returned (.slice B n d) ∧ Owns cb 5 w.heap.size w' (.slice B n d) n l) ∧ Below w.heap.size w w' := by
  have HR := Lib.hid h
  have hb := Lib.hid h.big
  clear h
  have hq := fun w => run_eql_nilB w A n c
  rcases A with _ | a
  · obtain ⟨rfl, rfl⟩ := row_none HR.out
    have hd : (none : Option Addr).isNone = true := rfl
    rw [hd] at hq
    go_enter Try.func65, Try.ntmps65
    go_wp2
    go_ret
    exact ⟨⟨_, _, rfl, Owns.nil _ _ _ _⟩, Below.refl _ _⟩
  · have hd : (some a).isNone = false := rfl
    rw [hd] at hq
    have hmade : Hid (Owns cb 5 w.heap.size (w.alloc (.cells #[] 5)) (.slice (some ⟨w.heap.size, 0, none⟩) 0 0) 0 []) := World.ownsRow_made w #[] 0 (Nat.le_refl _) (Nat.zero_le _) (by simp)
    go_enter Try.func65, Try.ntmps65
    go_wp2_with (at_builtin
                 refine wpList_append_row cb_one Try.underlying23 info_byte rfl rfl (.tmp 5) (.tmp 6) rfl rfl w.heap.size _ 0 [] rfl hmade.out (some a) n c l rfl (Row.alloc HR.out _) (by have := hb.out; omega) (by have := hb.out; omega) (by simp) ?_
                 intro A' c' w' hown' hb'
                 have O := Lib.hid (show Owns cb 5 w.heap.size w' (.slice A' n c') n l by simpa using hown')
                 have B := Lib.hid hb'
                 clear hown' hb')
    go_ret
    exact ⟨⟨_, _, rfl, O.out⟩, ((Below.refl _ w).alloc (Nat.le_refl _) _).trans B.out⟩

/-- A row of one's own is new. -/
theorem owns_new {α : Type} {f : α → Value} {e : TypeId} {base n m c : Nat} {A : Option Addr} {w : World} {l : List α} (h : Owns f e base w (.slice A m c) n l) {k o : Nat} (hA : A = some ⟨k, o, none⟩) : base ≤ k := by
  rcases h.2 with ⟨e1, -⟩ | ⟨g, cap, cur, e1, hb, -⟩
  · injection e1 with e1; rw [e1] at hA; cases hA
  · injection e1 with e1; rw [hA] at e1; injection e1 with e1; injection e1 with e1; omega
/-- A row of one's own stays where a struct's box is written to. -/
theorem owns_mov {α : Type} {f : α → Value} {e : TypeId} {base n m c : Nat} {A : Option Addr} {w w' : World} {l : List α} (h : Owns f e base w (.slice A m c) n l) {g : Nat} {t : TypeId} {cs : Array Value} (hg : Cells w g t cs) (hne : e ≠ t) (hm : Mov [g] w w') : Owns f e base w' (.slice A m c) n l := by
  refine ⟨h.1, ?_⟩
  rcases h.2 with hn | ⟨k, cap, cur, e1, hb, hk, r⟩
  · exact .inl hn
  · refine .inr ⟨k, cap, cur, e1, hb, ?_, r⟩
    have hck : Cells w k e cur := hk
    exact (hm.block k hck.lt (by simpa using hck.ne hg hne)).trans hk
/-- A message made of rows of one's own. -/
theorem made_msg {w : World} {lo : Nat} {k f t i : Int} {A B : Option Addr} {n c m d : Nat} {a : List Int} {x : List B8} (h1 : Owns ci 3 lo w (.slice A n c) n a) (h2 : Owns cb 5 lo w (.slice B m d) m x) (hf : Fits ⟨k, f, t, i, a, x⟩) (hm : m ≤ 140737488351232) :
    MAt w ⟨k, f, t, i, A, n, c, a, B, m, d, x⟩ ∧ New lo ⟨k, f, t, i, A, n, c, a, B, m, d, x⟩ := by
  have hn : n ≤ 17592186044416 := by have := hf.2.2; have := h1.len; simp at *; omega
  obtain ⟨A', c', e1, r1⟩ := h1.row (by omega)
  obtain ⟨B', d', e2, r2⟩ := h2.row hm
  obtain ⟨rfl, -, rfl⟩ : A = A' ∧ n = n ∧ c = c' := by simpa using e1
  obtain ⟨rfl, -, rfl⟩ : B = B' ∧ m = m ∧ d = d' := by simpa using e2
  refine ⟨⟨r1, r2, hf⟩, fun k hk => ?_⟩
  rcases hk with ⟨-, o, e⟩ | ⟨-, o, e⟩
  · exact owns_new h1 e
  · exact owns_new h2 e
/-- A message's box, and a net's. -/
abbrev MBox (w : World) (g : Nat) (x : Mx) : Prop := Cells w g 39 #[.int .i64 x.k, .int .i64 x.f, .int .i64 x.t, .int .i64 x.i, .slice x.A x.n x.c, .slice x.B x.m x.d]
abbrev ZBox (w : World) (g : Nat) : Prop := Cells w g 39 #[.int .i64 0, .int .i64 0, .int .i64 0, .int .i64 0, .slice none 0 0, .slice none 0 0]
abbrev NBox (w : World) (g cap : Nat) (Q : Option Addr) (n c : Nat) : Prop := Cells w g 28 #[.int .i64 (cap : Int), .slice Q n c]
section
variable {w : World} {g cap : Nat} {Q : Option Addr} {n c : Nat} {x : Mx}
theorem MBox.cells (h : MBox w g x) : w.cell? ⟨g, 0, none⟩ = some (.int .i64 x.k) ∧ w.cell? ⟨g, 1, none⟩ = some (.int .i64 x.f) ∧ w.cell? ⟨g, 2, none⟩ = some (.int .i64 x.t) ∧ w.cell? ⟨g, 3, none⟩ = some (.int .i64 x.i) ∧ w.cell? ⟨g, 4, none⟩ = some (.slice x.A x.n x.c) ∧ w.cell? ⟨g, 5, none⟩ = some (.slice x.B x.m x.d) :=
  ⟨Cells.cell h 0, Cells.cell h 1, Cells.cell h 2, Cells.cell h 3, Cells.cell h 4, Cells.cell h 5⟩
theorem NBox.cells (h : NBox w g cap Q n c) : w.cell? ⟨g, 0, none⟩ = some (.int .i64 (cap : Int)) ∧ w.cell? ⟨g, 1, none⟩ = some (.slice Q n c) := ⟨Cells.cell h 0, Cells.cell h 1⟩
theorem six_free {t : TypeId} {cs : Array Value} (h : Cells w g t cs) : w.frozen? ⟨g, 0, none⟩ = false ∧ w.frozen? ⟨g, 1, none⟩ = false ∧ w.frozen? ⟨g, 2, none⟩ = false ∧ w.frozen? ⟨g, 3, none⟩ = false ∧ w.frozen? ⟨g, 4, none⟩ = false ∧ w.frozen? ⟨g, 5, none⟩ = false :=
  ⟨h.frozen 0, h.frozen 1, h.frozen 2, h.frozen 3, h.frozen 4, h.frozen 5⟩
end

set_option maxRecDepth 100000 in
set_option maxHeartbeats 3200000 in
theorem cloned_any {x : Mx} {w : World} (h : MAt w x) : Calls Try.prog 49 #[mxv x] w (GaveX w x.p) := by
  have HM := Lib.hid h
  have HF := Lib.hid h.fits
  clear h
  obtain ⟨k, f, t, i, A, n, c, a, B, m, d, xs⟩ := x
  have HI := fun W (hW : Below w.heap.size w W) => Lib.hid (cloneI_any (HM.out.ints.below hW) (by have := HF.out.2.2; have := HM.out.ints.len; simp [Mx.p] at *; omega))
  have HT := fun W (hW : Below w.heap.size w W) => Lib.hid (cloneB_any (HM.out.text.below hW))
  have hmb := Lib.hid HM.out.text.big
  dsimp only at HI HT hmb
  unfold mxv
  dsimp only
  go_enter Try.func49, Try.ntmps49
  go_upto_region 1 with fail
  have L1 : Hid (Below w.heap.size w ((w.alloc (.cells #[.int .i64 k, .int .i64 f, .int .i64 t, .int .i64 i, .slice A n c, .slice B m d] 39)).alloc (.cells #[.int .i64 0, .int .i64 0, .int .i64 0, .int .i64 0, .slice none 0 0, .slice none 0 0] 39))) := ((Below.refl _ w).alloc (Nat.le_refl _) _).alloc (by simp) _
  have X1 : Hid (MBox ((w.alloc (.cells #[.int .i64 k, .int .i64 f, .int .i64 t, .int .i64 i, .slice A n c, .slice B m d] 39)).alloc (.cells #[.int .i64 0, .int .i64 0, .int .i64 0, .int .i64 0, .slice none 0 0, .slice none 0 0] 39)) w.heap.size ⟨k, f, t, i, A, n, c, a, B, m, d, xs⟩) := Cells.alloc (Cells.new _ _ _) _
  have Z1 : Hid (ZBox ((w.alloc (.cells #[.int .i64 k, .int .i64 f, .int .i64 t, .int .i64 i, .slice A n c, .slice B m d] 39)).alloc (.cells #[.int .i64 0, .int .i64 0, .int .i64 0, .int .i64 0, .slice none 0 0, .slice none 0 0] 39)) (w.heap.size + 1)) := by
    have := Cells.new (w.alloc (.cells #[.int .i64 k, .int .i64 f, .int .i64 t, .int .i64 i, .slice A n c, .slice B m d] 39)) #[.int .i64 0, .int .i64 0, .int .i64 0, .int .i64 0, .slice none 0 0, .slice none 0 0] 39
    rw [World.size_alloc] at this
    exact this
  generalize (w.alloc (.cells #[.int .i64 k, .int .i64 f, .int .i64 t, .int .i64 i, .slice A n c, .slice B m d] 39)).alloc (.cells #[.int .i64 0, .int .i64 0, .int .i64 0, .int .i64 0, .slice none 0 0, .slice none 0 0] 39) = w1 at *
  have L2 := Lib.hid L1.out.drew
  have X2 : Hid (MBox w1.drew w.heap.size _) := Cells.drew X1.out
  have Z2 : Hid (ZBox w1.drew (w.heap.size + 1)) := Cells.drew Z1.out
  refine RegK.start (S := fun W => W.cell? ⟨w.heap.size, 5, none⟩ = some (.slice B m d)) 9 (by kernel_rfl) (MBox.cells X2.out).2.2.2.2.2 (fun hHeld => ?_)
  generalize w1.drew = w2 at *
  clear L1 X1 Z1
  (first | (refine RegK.take 0 [9] (v := ?_) rfl (by kernel_rfl) (by kernel_rfl) (by kernel_rfl) (by kernel_rfl) rfl (by kernel_rfl) (fun _ _ _ h => h) (Or.inl ⟨by rfl, ?_⟩) (by assumption) ?_; rotate_left; (focus ((intro W hSW; (try dsimp only at hSW); (try go_split_ands); go_simp; (try (with_reducible rfl)); done)))) | (refine RegK.take 0 [9] (v := undef) rfl (by kernel_rfl) (by kernel_rfl) (by kernel_rfl) (by kernel_rfl) rfl (by kernel_rfl) (fun _ _ _ h => h) (Or.inr ⟨by rfl, rfl⟩) (by assumption) ?_))
  (try simp only [Act.put, List.setIfInBounds_toArray, List.set_cons_zero, List.set_cons_succ])
  (first | (refine RegK.take 3 [9] (v := ?_) rfl (by kernel_rfl) (by kernel_rfl) (by kernel_rfl) (by kernel_rfl) rfl (by kernel_rfl) (fun _ _ _ h => h) (Or.inl ⟨by rfl, ?_⟩) (by assumption) ?_; rotate_left; (focus ((intro W hSW; (try dsimp only at hSW); (try go_split_ands); go_simp; (try (with_reducible rfl)); done)))) | (refine RegK.take 3 [9] (v := undef) rfl (by kernel_rfl) (by kernel_rfl) (by kernel_rfl) (by kernel_rfl) rfl (by kernel_rfl) (fun _ _ _ h => h) (Or.inr ⟨by rfl, rfl⟩) (by assumption) ?_))
  (try simp only [Act.put, List.setIfInBounds_toArray, List.set_cons_zero, List.set_cons_succ])
  (first | (refine RegK.take 4 [9] (v := ?_) rfl (by kernel_rfl) (by kernel_rfl) (by kernel_rfl) (by kernel_rfl) rfl (by kernel_rfl) (fun _ _ _ h => h) (Or.inl ⟨by rfl, ?_⟩) (by assumption) ?_; rotate_left; (focus ((intro W hSW; (try dsimp only at hSW); (try go_split_ands); go_simp; (try (with_reducible rfl)); done)))) | (refine RegK.take 4 [9] (v := undef) rfl (by kernel_rfl) (by kernel_rfl) (by kernel_rfl) (by kernel_rfl) rfl (by kernel_rfl) (fun _ _ _ h => h) (Or.inr ⟨by rfl, rfl⟩) (by assumption) ?_))
  (try simp only [Act.put, List.setIfInBounds_toArray, List.set_cons_zero, List.set_cons_succ])
  have m4 := (MBox.cells X2.out).2.2.2.2.1
  dsimp only at m4
  refine RegK.step 1 rfl (by kernel_rfl) (by rfl) (fun K hK => ?_)
  go_simp
  refine hK.out _ _ (fun _ => hHeld) ?_
  clear hK K m4
  (try simp only [Act.put, List.setIfInBounds_toArray, List.set_cons_zero, List.set_cons_succ])
  refine RegK.step 2 rfl (by kernel_rfl) (by rfl) (fun K hK => ?_)
  go_simp
  refine (HI _ L2.out).out.mono ?_
  rintro e w3 ⟨⟨A', c', rfl, hO⟩, hb⟩
  have L3 := Lib.hid (L2.out.trans (hb.mono L2.out.size))
  have X3 : Hid (MBox w3 w.heap.size _) := Cells.below X2.out hb
  have Z3 : Hid (ZBox w3 (w.heap.size + 1)) := Cells.below Z2.out hb
  have OA3 := Lib.hid (hO.mono L2.out.size)
  clear hO hb X2 Z2 HI hHeld
  have hHeld : w3.cell? ⟨w.heap.size, 5, none⟩ = some (.slice B m d) := (MBox.cells X3.out).2.2.2.2.2
  refine hK.out _ _ (fun _ => hHeld) ?_
  clear hK K
  (try simp only [Act.put, List.setIfInBounds_toArray, List.set_cons_zero, List.set_cons_succ])
  (first | (refine RegK.take 6 [9] (v := ?_) rfl (by kernel_rfl) (by kernel_rfl) (by kernel_rfl) (by kernel_rfl) rfl (by kernel_rfl) (fun _ _ _ h => h) (Or.inl ⟨by rfl, ?_⟩) (by assumption) ?_; rotate_left; (focus ((intro W hSW; (try dsimp only at hSW); (try go_split_ands); go_simp; (try (with_reducible rfl)); done)))) | (refine RegK.take 6 [9] (v := undef) rfl (by kernel_rfl) (by kernel_rfl) (by kernel_rfl) (by kernel_rfl) rfl (by kernel_rfl) (fun _ _ _ h => h) (Or.inr ⟨by rfl, rfl⟩) (by assumption) ?_))
  (try simp only [Act.put, List.setIfInBounds_toArray, List.set_cons_zero, List.set_cons_succ])
  refine RegK.step 5 rfl (by kernel_rfl) (by rfl) (fun K hK => ?_)
  go_simp
  refine (HT _ L3.out).out.mono ?_
  rintro e w4 ⟨⟨B', d', rfl, hO⟩, hb⟩
  have L4 := Lib.hid (L3.out.trans (hb.mono L3.out.size))
  have X4 : Hid (MBox w4 w.heap.size _) := Cells.below X3.out hb
  have Z4 : Hid (ZBox w4 (w.heap.size + 1)) := Cells.below Z3.out hb
  have OA4 := Lib.hid (Owns.below OA3.out hb)
  have OB4 := Lib.hid (hO.mono L3.out.size)
  clear hO hb X3 Z3 HT hHeld OA3 L3 L2
  have hHeld : w4.cell? ⟨w.heap.size, 5, none⟩ = some (.slice B m d) := (MBox.cells X4.out).2.2.2.2.2
  refine hK.out _ _ (fun _ => hHeld) ?_
  clear hK K
  (try simp only [Act.put, List.setIfInBounds_toArray, List.set_cons_zero, List.set_cons_succ])
  have y4 := (MBox.cells X4.out).2.2.2.2.1
  have f4 := (six_free X4.out).2.2.2.2.1
  dsimp only at y4
  refine RegK.step 7 rfl (by kernel_rfl) (by rfl) (fun K hK => ?_)
  go_simp
  have bt : Mov [w.heap.size] w4 (w4.setCell ⟨w.heap.size, 4, none⟩ (.slice A' n c')) := Mov.set1 w4 (by simp) 4 _
  have X5 : Hid (MBox (w4.setCell ⟨w.heap.size, 4, none⟩ (.slice A' n c')) w.heap.size ⟨k, f, t, i, A', n, c', a, B, m, d, xs⟩) := by show Cells _ _ _ _; simpa using Cells.set_ X4.out 4 (.slice A' n c')
  have Z5 : Hid (ZBox (w4.setCell ⟨w.heap.size, 4, none⟩ (.slice A' n c')) (w.heap.size + 1)) := Cells.mov Z4.out bt (by simp)
  have L5 := Lib.hid (L4.out.trans (bt.up L4.out.size (Nat.le_refl _)))
  have OA5 := Lib.hid (owns_mov OA4.out X4.out (by decide) bt)
  have OB5 := Lib.hid (owns_mov OB4.out X4.out (by decide) bt)
  clear bt y4 f4 X4 Z4 L4 OA4 OB4 hHeld
  generalize w4.setCell ⟨w.heap.size, 4, none⟩ (.slice A' n c') = w5 at *
  have hHeld : w5.cell? ⟨w.heap.size, 5, none⟩ = some (.slice B m d) := (MBox.cells X5.out).2.2.2.2.2
  refine hK.out _ _ (fun _ => hHeld) ?_
  clear hK K
  (try simp only [Act.put, List.setIfInBounds_toArray, List.set_cons_zero, List.set_cons_succ])
  (first | (refine RegK.take 8 [9] (v := ?_) rfl (by kernel_rfl) (by kernel_rfl) (by kernel_rfl) (by kernel_rfl) rfl (by kernel_rfl) (fun _ _ _ h => h) (Or.inl ⟨by rfl, ?_⟩) (by assumption) ?_; rotate_left; (focus ((intro W hSW; (try dsimp only at hSW); (try go_split_ands); go_simp; (try (with_reducible rfl)); done)))) | (refine RegK.take 8 [9] (v := undef) rfl (by kernel_rfl) (by kernel_rfl) (by kernel_rfl) (by kernel_rfl) rfl (by kernel_rfl) (fun _ _ _ h => h) (Or.inr ⟨by rfl, rfl⟩) (by assumption) ?_))
  (try simp only [Act.put, List.setIfInBounds_toArray, List.set_cons_zero, List.set_cons_succ])
  have f5 := (six_free X5.out).2.2.2.2.2
  refine RegK.step 9 rfl (by kernel_rfl) (by rfl) (fun K hK => ?_)
  go_simp
  have bt : Mov [w.heap.size] w5 (w5.setCell ⟨w.heap.size, 5, none⟩ (.slice B' m d')) := Mov.set1 w5 (by simp) 5 _
  have X6 : Hid (MBox (w5.setCell ⟨w.heap.size, 5, none⟩ (.slice B' m d')) w.heap.size ⟨k, f, t, i, A', n, c', a, B', m, d', xs⟩) := by show Cells _ _ _ _; simpa using Cells.set_ X5.out 5 (.slice B' m d')
  have Z6 : Hid (ZBox (w5.setCell ⟨w.heap.size, 5, none⟩ (.slice B' m d')) (w.heap.size + 1)) := Cells.mov Z5.out bt (by simp)
  have L6 := Lib.hid (L5.out.trans (bt.up L5.out.size (Nat.le_refl _)))
  have OA6 := Lib.hid (owns_mov OA5.out X5.out (by decide) bt)
  have OB6 := Lib.hid (owns_mov OB5.out X5.out (by decide) bt)
  clear bt f5 X5 Z5 L5 OA5 OB5 hHeld
  generalize w5.setCell ⟨w.heap.size, 5, none⟩ (.slice B' m d') = w6 at *
  refine hK.out _ _ (fun h => absurd rfl h) ?_
  clear hK K
  (try simp only [Act.put, List.setIfInBounds_toArray, List.set_cons_zero, List.set_cons_succ])
  refine RegK.done (by kernel_rfl) ?_ _
  obtain ⟨n0, n1, n2, n3, n4, n5⟩ := MBox.cells X6.out
  obtain ⟨f0, f1, f2, f3, f4, f5⟩ := six_free Z6.out
  obtain ⟨z0, z1, z2, z3, z4, z5⟩ := MBox.cells (x := ⟨0, 0, 0, 0, none, 0, 0, [], none, 0, 0, []⟩) Z6.out
  dsimp only at n0 n1 n2 n3 n4 n5 z0 z1 z2 z3 z4 z5
  go_wp2_with fail
  have bt := Mov.set6 w6 (w.heap.size + 1) (.int .i64 k) (.int .i64 f) (.int .i64 t) (.int .i64 i) (.slice A' n c') (.slice B' m d')
  have HR := Cells.set6 Z6.out (.int .i64 k) (.int .i64 f) (.int .i64 t) (.int .i64 i) (.slice A' n c') (.slice B' m d')
  have OA7 := owns_mov OA6.out Z6.out (by decide) bt
  have OB7 := owns_mov OB6.out Z6.out (by decide) bt
  have HY := made_msg OA7 OB7 HF.out hmb.out
  refine bodyPost_ret_by (results_c0 rfl _ _ (w.heap.size + 1) _ _ _ _ rfl HR Try.underlying39 rfl (by kernel_rfl)) rfl ?_
  exact ⟨⟨k, f, t, i, A', n, c', a, B', m, d', xs⟩, rfl, rfl, HY.1, HY.2, L6.out.trans (bt.up L6.out.size (by omega)), OB7⟩
end Net
end Go.Proofs.Ytamahknnppjegaa
