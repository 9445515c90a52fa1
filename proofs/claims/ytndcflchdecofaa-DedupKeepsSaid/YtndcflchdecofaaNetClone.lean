/-
  WALKS: slices.Clone of numbers, of bytes; net.cloned.
-/
import Derived.Test.YtndcflchdecofaaNetMem
import Derived.Test.YtndcflchdecofaaRes
import Derived.Test.YtndcflchdecofaaRegK
namespace Go.Proofs.Ytndcflchdecofaa
open Go.RowKit Mem Box
namespace Net
open Wire (B8 info_int)

theorem run_eql_nilI (w : World) (A : Option Addr) (n c : Nat) : (binOp .eql 30 (.slice A n c) (.slice none 0 0)).run Try.prog w = .ok (.bool A.isNone) w :=
  Go.run_eql_slice_nil w _ _ A n c Try.underlying30
theorem run_eql_nilB (w : World) (A : Option Addr) (n c : Nat) : (binOp .eql 31 (.slice A n c) (.slice none 0 0)).run Try.prog w = .ok (.bool A.isNone) w :=
  Go.run_eql_slice_nil w _ _ A n c Try.underlying31
theorem row_none {α : Type} {f : α → Value} {w : World} {n c : Nat} {l : List α} (h : Row f w none n c l) : n = 0 ∧ l = [] := by
  have hn : n = 0 := by
    rcases Nat.eq_zero_or_pos n with h0 | h0
    · exact h0
    · obtain ⟨b, o, e, -⟩ := h.at_ h0
      cases e
  exact ⟨hn, List.eq_nil_of_length_eq_zero (by rw [h.len, hn])⟩

set_option maxRecDepth 100000 in
set_option maxHeartbeats 1600000 in
theorem cloneI_any {A : Option Addr} {n c : Nat} {l : List Int} {w : World} (h : Row ci w A n c l) (hn : n ≤ 17592186044416) :
    Calls Try.prog 35 #[.slice A n c] w fun e w' => (∃ B d, e = .returned (.slice B n d) ∧ Owns ci 3 w.heap.size w' (.slice B n d) n l) ∧ Below w.heap.size w w' := by
  have HR := Lib.hid h
  clear h
  have hq := fun w => run_eql_nilI w A n c
  rcases A with _ | a
  · obtain ⟨rfl, rfl⟩ := row_none HR.out
    have hd : (none : Option Addr).isNone = true := rfl
    rw [hd] at hq
    go_enter Try.func35, Try.ntmps35
    go_wp2
    go_ret
    exact ⟨⟨_, _, rfl, Owns.nil _ _ _ _⟩, Below.refl _ _⟩
  · have hd : (some a).isNone = false := rfl
    rw [hd] at hq
    have hmade : Hid (Owns ci 3 w.heap.size (w.alloc (.cells #[] 3)) (.slice (some ⟨w.heap.size, 0, none⟩) 0 0) 0 []) := World.ownsRow_made w #[] 0 (Nat.le_refl _) (Nat.zero_le _) (by simp)
    go_enter Try.func35, Try.ntmps35
    go_wp2_with (at_builtin
                 refine wpList_append_row ci_one Try.underlying30 info_int rfl rfl (.tmp 5) (.tmp 6) rfl rfl w.heap.size _ 0 [] rfl hmade.out (some a) n c l rfl (Row.alloc HR.out _) (by omega) (by omega) (by simp) ?_
                 intro A' c' w' hown' hb'
                 have O := Lib.hid (show Owns ci 3 w.heap.size w' (.slice A' n c') n l by simpa using hown')
                 have B := Lib.hid hb'
                 clear hown' hb')
    go_ret
    exact ⟨⟨_, _, rfl, O.out⟩, ((Below.refl _ w).alloc (Nat.le_refl _) _).trans B.out⟩
set_option maxRecDepth 100000 in
set_option maxHeartbeats 1600000 in
theorem cloneB_any {A : Option Addr} {n c : Nat} {l : List B8} {w : World} (h : Row cb w A n c l) :
    Calls Try.prog 36 #[.slice A n c] w fun e w' => (∃ B d, e = .returned (.slice B n d) ∧ Owns cb 5 w.heap.size w' (.slice B n d) n l) ∧ Below w.heap.size w w' := by
  have HR := Lib.hid h
  have hb := Lib.hid h.big
  clear h
  have hq := fun w => run_eql_nilB w A n c
  rcases A with _ | a
  · obtain ⟨rfl, rfl⟩ := row_none HR.out
    have hd : (none : Option Addr).isNone = true := rfl
    rw [hd] at hq
    go_enter Try.func36, Try.ntmps36
    go_wp2
    go_ret
    exact ⟨⟨_, _, rfl, Owns.nil _ _ _ _⟩, Below.refl _ _⟩
  · have hd : (some a).isNone = false := rfl
    rw [hd] at hq
    have hmade : Hid (Owns cb 5 w.heap.size (w.alloc (.cells #[] 5)) (.slice (some ⟨w.heap.size, 0, none⟩) 0 0) 0 []) := World.ownsRow_made w #[] 0 (Nat.le_refl _) (Nat.zero_le _) (by simp)
    go_enter Try.func36, Try.ntmps36
    go_wp2_with (at_builtin
                 refine wpList_append_row cb_one Try.underlying31 info_byte rfl rfl (.tmp 5) (.tmp 6) rfl rfl w.heap.size _ 0 [] rfl hmade.out (some a) n c l rfl (Row.alloc HR.out _) (by have := hb.out; omega) (by have := hb.out; omega) (by simp) ?_
                 intro A' c' w' hown' hb'
                 have O := Lib.hid (show Owns cb 5 w.heap.size w' (.slice A' n c') n l by simpa using hown')
                 have B := Lib.hid hb'
                 clear hown' hb')
    go_ret
    exact ⟨⟨_, _, rfl, O.out⟩, ((Below.refl _ w).alloc (Nat.le_refl _) _).trans B.out⟩

/-- A row of one's own is new. -/
theorem owns_new {α : Type} {f : α → Value} {e : TypeId} {base n m c : Nat} {A : Option Addr} {w : World} {l : List α} (h : Owns f e base w (.slice A m c) n l) {k o : Nat} (hA : A = some ⟨k, o, none⟩) : base ≤ k := by
  rcases h.2 with ⟨e1, -⟩ | ⟨g, cap, cur, e1, hb, -⟩
  · injection e1 with e1; rw [e1] at hA; cases hA
  · injection e1 with e1; rw [hA] at e1; injection e1 with e1; injection e1 with e1; omega
/-- A row of one's own stays where a struct's box is written to. -/
theorem owns_mov {α : Type} {f : α → Value} {e : TypeId} {base n m c : Nat} {A : Option Addr} {w w' : World} {l : List α} (h : Owns f e base w (.slice A m c) n l) {g : Nat} {t : TypeId} {cs : Array Value} (hg : Cells w g t cs) (hne : e ≠ t) (hm : Mov [g] w w') : Owns f e base w' (.slice A m c) n l := by
  refine ⟨h.1, ?_⟩
  rcases h.2 with hn | ⟨k, cap, cur, e1, hb, hk, r⟩
  · exact .inl hn
  · refine .inr ⟨k, cap, cur, e1, hb, ?_, r⟩
    have hck : Cells w k e cur := hk
    exact (hm.block k hck.lt (by simpa using hck.ne hg hne)).trans hk
/-- A message made of rows of one's own. -/
theorem made_msg {w : World} {lo : Nat} {k f t i : Int} {A B : Option Addr} {n c m d : Nat} {a : List Int} {x : List B8} (h1 : Owns ci 3 lo w (.slice A n c) n a) (h2 : Owns cb 5 lo w (.slice B m d) m x) (hf : Fits ⟨k, f, t, i, a, x⟩) (hm : m ≤ 140737488351232) :
    MAt w ⟨k, f, t, i, A, n, c, a, B, m, d, x⟩ ∧ New lo ⟨k, f, t, i, A, n, c, a, B, m, d, x⟩ := by
  have hn : n ≤ 17592186044416 := by have := hf.2.2; have := h1.len; simp at *; omega
  obtain ⟨A', c', e1, r1⟩ := h1.row (by omega)
  obtain ⟨B', d', e2, r2⟩ := h2.row hm
  obtain ⟨rfl, -, rfl⟩ : A = A' ∧ n = n ∧ c = c' := by simpa using e1
  obtain ⟨rfl, -, rfl⟩ : B = B' ∧ m = m ∧ d = d' := by simpa using e2
  refine ⟨⟨r1, r2, hf⟩, fun k hk => ?_⟩
  rcases hk with ⟨-, o, e⟩ | ⟨-, o, e⟩
  · exact owns_new h1 e
  · exact owns_new h2 e
/-- A message's box, and a net's. -/
abbrev MBox (w : World) (g : Nat) (x : Mx) : Prop := Cells w g 33 #[.int .i64 x.k, .int .i64 x.f, .int .i64 x.t, .int .i64 x.i, .slice x.A x.n x.c, .slice x.B x.m x.d]
abbrev ZBox (w : World) (g : Nat) : Prop := Cells w g 33 #[.int .i64 0, .int .i64 0, .int .i64 0, .int .i64 0, .slice none 0 0, .slice none 0 0]
section
variable {w : World} {g cap : Nat} {Q : Option Addr} {n c : Nat} {x : Mx}
theorem MBox.cells (h : MBox w g x) : w.cell? ⟨g, 0, none⟩ = some (.int .i64 x.k) ∧ w.cell? ⟨g, 1, none⟩ = some (.int .i64 x.f) ∧ w.cell? ⟨g, 2, none⟩ = some (.int .i64 x.t) ∧ w.cell? ⟨g, 3, none⟩ = some (.int .i64 x.i) ∧ w.cell? ⟨g, 4, none⟩ = some (.slice x.A x.n x.c) ∧ w.cell? ⟨g, 5, none⟩ = some (.slice x.B x.m x.d) :=
  ⟨Cells.cell h 0, Cells.cell h 1, Cells.cell h 2, Cells.cell h 3, Cells.cell h 4, Cells.cell h 5⟩
theorem six_free {t : TypeId} {cs : Array Value} (h : Cells w g t cs) : w.frozen? ⟨g, 0, none⟩ = false ∧ w.frozen? ⟨g, 1, none⟩ = false ∧ w.frozen? ⟨g, 2, none⟩ = false ∧ w.frozen? ⟨g, 3, none⟩ = false ∧ w.frozen? ⟨g, 4, none⟩ = false ∧ w.frozen? ⟨g, 5, none⟩ = false :=
  ⟨h.frozen 0, h.frozen 1, h.frozen 2, h.frozen 3, h.frozen 4, h.frozen 5⟩
end

end Net
end Go.Proofs.Ytndcflchdecofaa
