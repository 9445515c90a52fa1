/-
  WALKS: parted, its two questions, and slices.Clone over leases.
-/
import Derived.Test.YtehknenlifdchaaLeaIdx
namespace Go.Proofs.Ytehknenlifdchaa
open Go.RowKit Mem
namespace Lea

/-- Two rows that lie in other blocks. -/
def Far (s t : Value) : Prop := s.ownBlock = none ∨ s.ownBlock ≠ t.ownBlock
theorem Far.symm {s t : Value} (h : Far s t) : Far t s := by
  unfold Far at *
  rcases e : t.ownBlock with _ | k
  · exact .inl rfl
  · refine .inr ?_
    rcases h with h | h
    · rw [h]; simp
    · rw [e] at h; exact Ne.symm h
/-- An append onto one row leaves the other where it is, and far. -/
theorem Far.step {base : Nat} {w : World} {s s' t : Value} {m : Nat} {xs : List Lv} (h : Far s t) (ht : OwnsL base w t m xs) (h5 : s'.ownBlock = s.ownBlock ∨ s'.ownBlock = some w.heap.size) : Far s' t := by
  unfold Far at *
  rcases h5 with h5 | h5
  · rw [h5]; exact h
  · refine .inr ?_
    rw [h5]
    intro e
    have := (ht.lt _ e.symm).2
    omega

set_option maxRecDepth 100000 in
set_option maxHeartbeats 6400000 in
theorem parted_any {A : Option Addr} {n c : Nat} {l : List Lv} {w : World} (h : RowL w A n c l) (hn : n ≤ 1000000) (g : Nat) (lb : Array Value) (eg : ∀ args w, (callFunc g args).run Try.prog w = .ok (.enter g args) w) (p : Lv → Bool) (hp : PredL g lb p w) :
    Calls Try.prog 39 #[.slice A n c, .func (.func g) #[] lb] w fun e w' => (∃ X i x Y j y, e = .returned (.tuple #[.slice X i x, .slice Y j y]) ∧ OwnsL w.heap.size w' (.slice X i x) i (l.filter p) ∧ OwnsL w.heap.size w' (.slice Y j y) j (l.filter (fun x => !p x))) ∧ Below w.heap.size w w' := by
  have HR := Lib.hid h
  have hbig := h.big
  have hlen := Lib.hid h.len
  have HP := Lib.hid hp
  clear h hp
  go_enter Try.func39, Try.ntmps39
  go_wp2
  go_loopw [4, 5, 10] (fun s t i wr => ∃ (k : Nat) (X : Option Addr) (a x : Nat) (Y : Option Addr) (b y : Nat), i = .int .i64 k ∧ s = .slice X a x ∧ t = .slice Y b y ∧ k ≤ n ∧ a ≤ k ∧ b ≤ k ∧ Hid (Below w.heap.size w wr ∧ OwnsL w.heap.size wr (.slice X a x) a ((l.take k).filter p) ∧ OwnsL w.heap.size wr (.slice Y b y) b ((l.take k).filter (fun x => !p x)) ∧ Far (.slice X a x) (.slice Y b y))) (fun _ _ i _ => n - (intOf i).toNat)
  case atStart => exact ⟨0, none, 0, 0, none, 0, 0, rfl, rfl, rfl, by omega, by omega, by omega, Below.refl _ _, OwnsL.nil _ _, OwnsL.nil _ _, .inl rfl⟩
  case round =>
    obtain ⟨k, X, a, x, Y, b, y, rfl, rfl, rfl, hk, ha, hb, hH⟩ := hrel
    by_cases hlt : k < n
    · obtain ⟨z, hz⟩ := HR.out.get hlt
      obtain ⟨q, o, hA, c0, c1, c2, c3⟩ := RowS.lease_at (HR.out.below hH.out.1) hz
      subst hA
      have hk0 : (0 : Int) ≤ (k : Int) := by omega
      have hkn : (k : Int) < (n : Int) := by omega
      have htk : Hid (l.take (k + 1) = l.take k ++ [z]) := by show _ = _; rw [List.take_add_one, hz]; rfl
      clear hz
      have A1 : Hid (Below wr.heap.size wr (wr.alloc (.cells #[.int .i64 z.key, .int .i64 z.host, .int .i64 z.epoch, .int .i64 z.til] 43))) := (Below.refl _ wr).alloc (Nat.le_refl _) _
      have B1 : Hid (LBox (wr.alloc (.cells #[.int .i64 z.key, .int .i64 z.host, .int .i64 z.epoch, .int .i64 z.til] 43)) wr.heap.size z) := Cells.new _ _ _
      obtain ⟨n0, n1, n2, n3⟩ := LBox.cells B1.out
      have HC := fun W (hW : Below w.heap.size w W) => HP.out W z hW
      cases e : p z
      · rw [e] at HC
        have HE := Lib.hid e
        clear e
        go_upto_region 4 with fail
        generalize wr.alloc (.cells #[.int .i64 z.key, .int .i64 z.host, .int .i64 z.epoch, .int .i64 z.til] 43) = w1 at *
        go_upto_region 6 with (go_at_fn g; refine (HC _ (hH.out.1.trans (A1.out.mono hH.out.1.size))).mono ?_; rintro e w2 ⟨rfl, hb2⟩)
        have A2 := Lib.hid (A1.out.trans (hb2.mono A1.out.size))
        have B2 := Lib.hid (Cells.below B1.out hb2)
        clear hb2 A1 B1 n0 n1 n2 n3
        obtain ⟨n0, n1, n2, n3⟩ := LBox.cells B2.out
        have A3 : Hid (Below wr.heap.size wr (w2.alloc (.cells #[.int .i64 z.key, .int .i64 z.host, .int .i64 z.epoch, .int .i64 z.til] 43))) := A2.out.alloc A2.out.size _
        have B3 : Hid (LBox (w2.alloc (.cells #[.int .i64 z.key, .int .i64 z.host, .int .i64 z.epoch, .int .i64 z.til] 43)) w2.heap.size z) := Cells.new _ _ _
        go_wp2_with (at_builtin
                     refine wpList_append_l rfl (.tmp 21) (.tmp 23) rfl rfl w.heap.size (.slice Y b y) b _ rfl (hH.out.2.2.1.below A3.out) _ 1 1 [z] rfl (RowS.one B3.out) (by omega) (Nat.le_trans hH.out.1.size A3.out.size) ?_
                     intro A' c' w' h1 h2 h3
                     have A4 := Lib.hid ((hH.out.1.trans (A3.out.mono hH.out.1.size)).trans (below_row (hH.out.2.2.1.below A3.out) h2 (Nat.le_trans hH.out.1.size A3.out.size)))
                     have O4 := Lib.hid h1
                     have F4 : Hid (Far (.slice A' (b + 1) c') (.slice X a x)) := Far.step hH.out.2.2.2.symm (hH.out.2.1.below A3.out) h3
                     have X4 := Lib.hid ((hH.out.2.1.below A3.out).kept h2 hH.out.2.2.2)
                     clear h1 h2 h3)
        go_roundw
        case rel =>
          refine ⟨k + 1, X, a, x, A', b + 1, c', by go_num, rfl, rfl, by omega, by omega, by omega, A4.out, ?_, ?_, F4.out.symm⟩
          · rw [htk.out, List.filter_append]; simpa [HE.out] using X4.out
          · rw [htk.out, List.filter_append]; simpa [HE.out] using O4.out
        case measure => simp [intOf]; omega
      · rw [e] at HC
        have HE := Lib.hid e
        clear e
        go_upto_region 4 with fail
        generalize wr.alloc (.cells #[.int .i64 z.key, .int .i64 z.host, .int .i64 z.epoch, .int .i64 z.til] 43) = w1 at *
        go_upto_region 5 with (go_at_fn g; refine (HC _ (hH.out.1.trans (A1.out.mono hH.out.1.size))).mono ?_; rintro e w2 ⟨rfl, hb2⟩)
        have A2 := Lib.hid (A1.out.trans (hb2.mono A1.out.size))
        have B2 := Lib.hid (Cells.below B1.out hb2)
        clear hb2 A1 B1 n0 n1 n2 n3
        obtain ⟨n0, n1, n2, n3⟩ := LBox.cells B2.out
        have A3 : Hid (Below wr.heap.size wr (w2.alloc (.cells #[.int .i64 z.key, .int .i64 z.host, .int .i64 z.epoch, .int .i64 z.til] 43))) := A2.out.alloc A2.out.size _
        have B3 : Hid (LBox (w2.alloc (.cells #[.int .i64 z.key, .int .i64 z.host, .int .i64 z.epoch, .int .i64 z.til] 43)) w2.heap.size z) := Cells.new _ _ _
        go_wp2_with (at_builtin
                     refine wpList_append_l rfl (.tmp 17) (.tmp 19) rfl rfl w.heap.size (.slice X a x) a _ rfl (hH.out.2.1.below A3.out) _ 1 1 [z] rfl (RowS.one B3.out) (by omega) (Nat.le_trans hH.out.1.size A3.out.size) ?_
                     intro A' c' w' h1 h2 h3
                     have A4 := Lib.hid ((hH.out.1.trans (A3.out.mono hH.out.1.size)).trans (below_row (hH.out.2.1.below A3.out) h2 (Nat.le_trans hH.out.1.size A3.out.size)))
                     have O4 := Lib.hid h1
                     have F4 : Hid (Far (.slice A' (a + 1) c') (.slice Y b y)) := Far.step hH.out.2.2.2 (hH.out.2.2.1.below A3.out) h3
                     have X4 := Lib.hid ((hH.out.2.2.1.below A3.out).kept h2 hH.out.2.2.2.symm)
                     clear h1 h2 h3)
        go_roundw
        case rel =>
          refine ⟨k + 1, A', a + 1, c', Y, b, y, by go_num, rfl, rfl, by omega, by omega, by omega, A4.out, ?_, ?_, F4.out⟩
          · rw [htk.out, List.filter_append]; simpa [HE.out] using O4.out
          · rw [htk.out, List.filter_append]; simpa [HE.out] using X4.out
        case measure => simp [intOf]; omega
    · have hkn : l.take k = l := List.take_of_length_le (by have := hlen.out; omega)
      have HK := Lib.hid hkn
      clear hkn
      go_wp2_with fail
      go_ret2
      have h := hH.out
      rw [HK.out] at h
      exact ⟨⟨X, a, x, Y, b, y, rfl, h.2.1, h.2.2.1⟩, h.1⟩

set_option maxRecDepth 100000 in
set_option maxHeartbeats 1600000 in
theorem tick1_any (now : Int) (q : Nat) (x : Lv) (w : World) (hq : OneBox w q 3 (.int .i64 now)) :
    Calls Try.prog 48 #[lv x, .pointer (some ⟨q, 0, none⟩)] w fun e w' => e = .returned (.bool (decide (x.til ≤ now))) ∧ Below w.heap.size w w' := by
  have L1 : Hid (Below w.heap.size w (w.alloc (.cells #[.int .i64 x.key, .int .i64 x.host, .int .i64 x.epoch, .int .i64 x.til] 43))) := (Below.refl w.heap.size w).alloc (Nat.le_refl _) _
  have B1 : Hid (OneBox (w.alloc (.cells #[.int .i64 x.key, .int .i64 x.host, .int .i64 x.epoch, .int .i64 x.til] 43)) q 3 (.int .i64 now)) := Cells.alloc hq _
  have B2 : Hid (LBox (w.alloc (.cells #[.int .i64 x.key, .int .i64 x.host, .int .i64 x.epoch, .int .i64 x.til] 43)) w.heap.size x) := Cells.new w _ _
  clear hq
  go_enter Try.func48, Try.ntmps48
  go_upto_region 1 with fail
  generalize w.alloc (.cells #[.int .i64 x.key, .int .i64 x.host, .int .i64 x.epoch, .int .i64 x.til] 43) = w1 at *
  have m0 := OneBox.cells B1.out
  obtain ⟨n0, n1, n2, n3⟩ := LBox.cells B2.out
  go_wp2_with fail
  go_ret
  exact ⟨rfl, L1.out⟩

set_option maxRecDepth 100000 in
set_option maxHeartbeats 1600000 in
theorem of1_any (host : Int) (q : Nat) (x : Lv) (w : World) (hq : OneBox w q 3 (.int .i64 host)) :
    Calls Try.prog 40 #[lv x, .pointer (some ⟨q, 0, none⟩)] w fun e w' => e = .returned (.bool (x.host == host)) ∧ Below w.heap.size w w' := by
  have L1 : Hid (Below w.heap.size w (w.alloc (.cells #[.int .i64 x.key, .int .i64 x.host, .int .i64 x.epoch, .int .i64 x.til] 43))) := (Below.refl w.heap.size w).alloc (Nat.le_refl _) _
  have B1 : Hid (OneBox (w.alloc (.cells #[.int .i64 x.key, .int .i64 x.host, .int .i64 x.epoch, .int .i64 x.til] 43)) q 3 (.int .i64 host)) := Cells.alloc hq _
  have B2 : Hid (LBox (w.alloc (.cells #[.int .i64 x.key, .int .i64 x.host, .int .i64 x.epoch, .int .i64 x.til] 43)) w.heap.size x) := Cells.new w _ _
  clear hq
  go_enter Try.func40, Try.ntmps40
  go_upto_region 1 with fail
  generalize w.alloc (.cells #[.int .i64 x.key, .int .i64 x.host, .int .i64 x.epoch, .int .i64 x.til] 43) = w1 at *
  have m0 := OneBox.cells B1.out
  obtain ⟨n0, n1, n2, n3⟩ := LBox.cells B2.out
  go_wp2_with fail
  go_ret
  exact ⟨rfl, L1.out⟩

theorem run_eql_nil (w : World) (A : Option Addr) (n c : Nat) : (binOp .eql 22 (.slice A n c) (.slice none 0 0)).run Try.prog w = .ok (.bool A.isNone) w :=
  Go.run_eql_slice_nil w _ _ A n c Try.underlying22

set_option maxRecDepth 100000 in
set_option maxHeartbeats 1600000 in
theorem clone_any {A : Option Addr} {n c : Nat} {l : List Lv} {w : World} (h : RowL w A n c l) (hn : n ≤ 1000000) :
    Calls Try.prog 47 #[.slice A n c] w fun e w' => (∃ B d, e = .returned (.slice B n d) ∧ OwnsL w.heap.size w' (.slice B n d) n l) ∧ Below w.heap.size w w' := by
  have HR := Lib.hid h
  have hb := h.big
  clear h
  have hq := fun w => run_eql_nil w A n c
  rcases A with _ | a
  · have hn : n = 0 := by
      rcases Nat.eq_zero_or_pos n with h0 | h0
      · exact h0
      · obtain ⟨b, o, e, -⟩ := HR.out.at_ h0
        cases e
    have hl : l = [] := List.eq_nil_of_length_eq_zero (by rw [HR.out.len, hn])
    subst hn hl
    have hd : (none : Option Addr).isNone = true := rfl
    rw [hd] at hq
    go_enter Try.func47, Try.ntmps47
    go_wp2
    go_ret
    exact ⟨⟨_, _, rfl, OwnsL.nil _ _⟩, Below.refl _ _⟩
  · have hd : (some a).isNone = false := rfl
    rw [hd] at hq
    have hmade : Hid (OwnsL w.heap.size (w.alloc (.cells #[] 43)) (.slice (some ⟨w.heap.size, 0, none⟩) 0 0) 0 []) := ⟨World.ownsRow_made w #[] 0 (Nat.le_refl _) (Nat.zero_le _) (by simp), rfl⟩
    go_enter Try.func47, Try.ntmps47
    go_wp2_with (at_builtin
                 refine wpList_append_l rfl (.tmp 5) (.tmp 6) rfl rfl w.heap.size _ 0 [] rfl hmade.out (some a) n c l rfl (RowS.alloc HR.out _) (by omega) (by simp) ?_
                 intro A' c' w' hown' hg' hb5
                 have O := Lib.hid (show OwnsL w.heap.size w' (.slice A' n c') n l by simpa using hown')
                 have B := Lib.hid (below_row hmade.out hg' (by simp))
                 clear hown' hg' hb5)
    go_ret
    exact ⟨⟨_, _, rfl, O.out⟩, ((Below.refl _ w).alloc (Nat.le_refl _) _).trans B.out⟩
end Lea
end Go.Proofs.Ytehknenlifdchaa
