/-
  CrcParts: FOR EVERY TWO TEXTS, WHATEVER MEMORY THEY SHARE, THE LAW RETURNS TRUE (the sum of a text is that of its parts; gone on with; and put together) AND CHANGES NOTHING THAT WAS THERE.
  No condition beside the row's own (what can be read as data, within the model's reach).
-/
import Derived.Test.YtbojfiabgjaaaaaCrcState
import Derived.Maps.AppendAt
import Derived.OwnWalk
namespace Go.Proofs.Ytbojfiabgjaaaaa
open Go.ChangeShapes Go.WideShapes Go.ChangeAt Go.RowKit
namespace Crc

/-- A byte as a cell. -/
def cell8 (x : BitVec 8) : Value := .int .u8 (u x)
theorem info_byte : (Try.prog.info? 5).map (fun i => (i.zero, i.size, i.bytes)) = some (some (.int .u8 0), 1, 1) := by kernel_rfl

/-- append of bytes onto a row of the call's own; the source nil, empty or not. -/
theorem run_append_bytes (w : World) (base : Nat) (s : Value) (n : Nat) (xs : List Value) (hown : w.ownsRow base 5 1 s n xs) (g : Nat) (A : Option Addr) (m c : Nat) (l : List (BitVec 8)) (h : Bytes w g A m l)
    (h63 : n + m ≤ 140737488351232) (hbase : base ≤ w.heap.size) :
    ∃ s' w', (Builtin.append_ #[24, 24] 24 #[s, .slice A m c]).run Try.prog w = .ok s' w' ∧ w'.ownsRow base 5 1 s' (n + m) (xs ++ l.map cell8) ∧ w.grownBy w' s.ownBlock ∧
      (s'.ownBlock = s.ownBlock ∨ s'.ownBlock = some w.heap.size) := by
  obtain ⟨i, hi, hz0, hz1, hz2⟩ := info_parts info_byte
  have hone : ∀ q ∈ l.map cell8, q.oneCell' = true := by
    intro q hq
    obtain ⟨x, _, rfl⟩ := List.mem_map.1 hq
    rfl
  rcases A with _ | ad
  · have hm : m = 0 := by
      rcases Nat.eq_zero_or_pos m with h0 | h0
      · exact h0
      · obtain ⟨x, e, _⟩ := h.2.2 h0
        cases e
    have hl : l = [] := List.eq_nil_of_length_eq_zero (by rw [h.1, hm])
    subst hm hl
    refine ⟨s, w, ?_, by simpa using hown, World.grownBy.refl w _, .inl rfl⟩
    rcases hown.2 with ⟨rfl, rfl⟩ | ⟨b, cap, cur, rfl, _, _, hnc, _⟩
    · simp [Builtin.append_, run_underlying Try.underlying24, sizeOf, typeInfo, hi, Builtin.lenOf, Builtin.firstCells]
    · simp [Builtin.append_, run_underlying Try.underlying24, sizeOf, typeInfo, hi, Builtin.lenOf, Builtin.firstCells, hnc, storeCells]
  · have hcells : ∀ j q, (l.map cell8)[j]? = some q → w.cell? (ad.add j) = some q := by
      intro j q hq
      rw [List.getElem?_map] at hq
      obtain ⟨x, hx, rfl⟩ := Option.map_eq_some_iff.1 hq
      have hlt : j < l.length := (List.getElem?_eq_some_iff.1 hx).1
      obtain ⟨ad', e, _, hc⟩ := h.2.2 (by have := h.1; omega)
      injection e with e
      subst e
      exact hc j x hx
    obtain ⟨s', w', hrun, h2, h3, _, h5⟩ := run_append_own_at (P := Try.prog) w base 24 24 5 i _ 1 1 Try.underlying24 hi hz0 hz1 hz2 rfl (by omega) s n xs hown ad m c (l.map cell8) (by simp [h.1]) hcells hone (by unfold maxLen; omega) (by omega) hbase
    exact ⟨s', w', hrun, h2, h3, h5⟩

theorem wpList_append_bytes {w : World} {ops : Array Oper} {rest : List Oper} {o : Oper} {a : Act} {Q : Exit → Act → World → Prop} (hgd : o.guard = none) (s x : Operand)
    (ho : o.op = .call { callee := .builtin .append, args := #[s, x], argTypes := #[24, 24] }) (hty : o.type = 24)
    (base : Nat) (sv : Value) (n : Nat) (xs : List Value) (hs : a.eval s = sv) (hown : w.ownsRow base 5 1 sv n xs) (g : Nat) (A : Option Addr) (m c : Nat) (l : List (BitVec 8)) (hx : a.eval x = .slice A m c) (h : Bytes w g A m l)
    (h63 : n + m ≤ 140737488351232) (hbase : base ≤ w.heap.size)
    (hk : ∀ s' w', w'.ownsRow base 5 1 s' (n + m) (xs ++ l.map cell8) → w.grownBy w' sv.ownBlock → (s'.ownBlock = sv.ownBlock ∨ s'.ownBlock = some w.heap.size) → wpList Try.prog ops Q rest (a.put o.dst s') w') :
    wpList Try.prog ops Q (o :: rest) a w := by
  refine wpList_plain hgd fun K hK => ?_
  obtain ⟨s', w', hrun, h2, h3, h4⟩ := run_append_bytes w base sv n xs hown g A m c l h h63 hbase
  unfold Oper.wp execOp
  simp only [ho, hty, resolve, invoke, builtin, Sem.run_bind, Sem.run_pure, Result.andThen_ok, List.map_toArray, List.map_cons, List.map_nil, hs, hx, hrun]
  exact hK _ _ (hk s' w' h2 h3 h4)

/-- What the call owns reads as bytes, in blocks below the heap's end. -/
theorem own_bytes {w : World} {base : Nat} {s : Value} {n : Nat} {l : List (BitVec 8)} (h : w.ownsRow base 5 1 s n (l.map cell8)) (hn : n ≤ 140737488351232) : ∃ A c, s = .slice A n c ∧ LowBytes w w.heap.size A n l := by
  have hl : l.length = n := by simpa using h.1
  rcases h.2 with ⟨rfl, rfl⟩ | ⟨g, cap, cur, rfl, _, hg, hnc, hcm, hs, ht⟩
  · have : l = [] := List.eq_nil_of_length_eq_zero hl
    subst this
    exact ⟨none, 0, rfl, fun g _ => Bytes.none_ w g⟩
  · refine ⟨some ⟨g, 0, none⟩, cap, rfl, fun g' hg' => ⟨hl, hn, fun _ => ⟨_, rfl, ?_, fun i b hb => ?_⟩⟩⟩
    · have := (Array.getElem?_eq_some_iff.1 hg).1
      show g ≠ g'
      omega
    · exact h.cells (g := g) rfl i _ (by rw [List.getElem?_map, hb]; rfl)

/-- .. and avoids a block below its own. -/
theorem own_off {w : World} {base : Nat} {s : Value} {n : Nat} {l : List (BitVec 8)} (h : w.ownsRow base 5 1 s n (l.map cell8)) (hn : n ≤ 140737488351232) {g : Nat} (hg : g < base) : ∃ A c, s = .slice A n c ∧ Bytes w g A n l := by
  have hl : l.length = n := by simpa using h.1
  rcases h.2 with ⟨rfl, rfl⟩ | ⟨b, cap, cur, rfl, hb, hgg, hnc, hcm, hs, ht⟩
  · have : l = [] := List.eq_nil_of_length_eq_zero hl
    subst this
    exact ⟨none, 0, rfl, Bytes.none_ w g⟩
  · exact ⟨some ⟨b, 0, none⟩, cap, rfl, hl, hn, fun _ => ⟨_, rfl, (by show b ≠ g; omega), fun i x hx => h.cells (g := b) rfl i _ (by rw [List.getElem?_map, hx]; rfl)⟩⟩
theorem _root_.Go.World.grownBy.to_none {w w' : World} (h : w.grownBy w' (Value.ownBlock (.slice none 0 0))) (g : Nat) : w.grownBy w' (some g) :=
  ⟨h.os, h.tape, h.output, h.size, fun k hk _ => h.block k hk (by simp [Value.ownBlock])⟩
theorem Tab.below {w w' : World} {B g : Nat} {q : Int} {made : Bool} (h : Tab w g q made) (hb : Below B w w') (hg : g < B) : Tab w' g q made := by
  obtain ⟨cs, hc, r⟩ := h
  exact ⟨cs, (hb.block g hg).trans hc, r⟩

set_option maxRecDepth 100000 in
set_option maxHeartbeats 3200000 in
theorem crcParts_walk (A : Option Addr) (n c : Nat) (l : List (BitVec 8)) (B : Option Addr) (m d : Nat) (l' : List (BitVec 8)) (w : World) (h1 : LowBytes w w.heap.size A n l) (h2 : LowBytes w w.heap.size B m l') :
    Calls Try.prog 4 #[.slice A n c, .slice B m d] w fun e w' => e = .returned (.bool true) ∧ Below w.heap.size w w' := by
  have H1 := Lib.hid h1
  have H2 := Lib.hid h2
  clear h1 h2
  rcases Bool.eq_false_or_eq_true (decide (19999 ≤ n + m)) with t1 | t1
  · go_enter Try.func4, Try.ntmps4
    go_wp2_with (first
      | (go_at_call 8; refine (live_any _).mono ?_; rintro e w1 ⟨rfl, hb⟩; have HB := Lib.hid hb; clear hb)
      | (go_at_call 9; ((with_reducible refine (big_two (g := w1.heap.size + 1) ((H1.out.below HB.out).at_ (Nat.le_succ_of_le HB.out.size)) ((H2.out.below HB.out).at_ (Nat.le_succ_of_le HB.out.size)) (Nat.succ_ne_self _) rfl).mono ?_); rintro e w2 ⟨rfl, rfl⟩)))
    go_ret
    exact ⟨rfl, HB.out.alloc HB.out.size _⟩
  · have hnm : n + m ≤ 20000 := by have := of_decide_eq_false t1; omega
    have HN := Lib.hid hnm
    clear hnm
    go_enter Try.func4, Try.ntmps4
    go_wp2_with (first
      | (go_at_call 8; refine (live_any _).mono ?_; rintro e w1 ⟨rfl, hb⟩; have HB := Lib.hid hb; clear hb)
      | (go_at_call 9; ((with_reducible refine (big_two (g := w1.heap.size + 1) ((H1.out.below HB.out).at_ (Nat.le_succ_of_le HB.out.size)) ((H2.out.below HB.out).at_ (Nat.le_succ_of_le HB.out.size)) (Nat.succ_ne_self _) rfl).mono ?_); rintro e w2 ⟨rfl, rfl⟩)))
    have HB2 := Lib.hid (HB.out.alloc HB.out.size (.cells #[.slice A n c, .slice B m d] 24))
    have HG : Hid (w.heap.size ≤ w1.heap.size + 1) := Nat.le_succ_of_le HB.out.size
    have P1 := Lib.hid ((H1.out.below HB2.out).at_ HG.out)
    have P2 := Lib.hid ((H2.out.below HB2.out).at_ HG.out)
    clear HB
    generalize hW : w1.alloc (.cells #[.slice A n c, .slice B m d] 24) = W at *
    have hg : w1.heap.size + 1 = W.heap.size := by rw [← hW]; simp
    clear hW
    generalize w1.heap.size + 1 = g at *
    have hg' := Lib.hid hg
    clear hg
    have E1 : v (goes (goes 0#32 l) l') = v (goes 0#32 (l ++ l')) := by rw [goes_append]
    have E2 : v (shn (8 * m) (goes 0#32 l) ^^^ goes 0#32 l') = v (goes 0#32 (l ++ l')) := by rw [← P2.out.1, goes_join]
    have HM := Lib.hid (show m < 9223372036854775808 by have := P2.out.2.1; omega)
    go_wp2_with (first
      | (go_at_call 10; ((with_reducible refine (st_new hg'.out).mono ?_); rintro e w3 ⟨rfl, hM⟩; have S0 := Lib.hid hM; clear hM))
      | (at_builtin
         refine wpList_append_bytes rfl (.const (.slice none 0 0)) (.tmp 16) rfl rfl (g + 1) (.slice none 0 0) 0 [] rfl (World.ownsRow_nil _ _ _ _) g A n c l rfl (P1.out.keep S0.out.keep) (by have := P1.out.2.1; omega) S0.out.tab.lt ?_
         intro s4 w4 hown4 hg4 hat4
         have O4 := Lib.hid hown4
         have G4 := Lib.hid hg4
         clear hown4 hg4 hat4)
      | (at_builtin
         refine wpList_append_bytes rfl (.tmp 17) (.tmp 18) rfl rfl (g + 1) s4 (0 + n) _ rfl O4.out g B m d l' rfl ((P2.out.keep S0.out.keep).keep ⟨G4.out.to_none g⟩) (by have := HN.out; omega) (Nat.le_trans S0.out.tab.lt G4.out.size) ?_
         intro s5 w5 hown5 hg5 hat5
         obtain ⟨A5, c5, rfl, hb5⟩ := own_off (n := n + m) (l := l ++ l') (by simpa using hown5) (by have := HN.out; omega) (Nat.lt_succ_self g)
         have P5 := Lib.hid hb5
         have G5 := Lib.hid hg5
         clear hown5 hg5 hat5 hb5))
    have F5 : Hid (Below (g + 1) w3 w5) :=
      ((Below.refl (g + 1) w3).grown G4.out S0.out.tab.lt (by simp [Value.ownBlock])).grown G5.out (Nat.le_trans S0.out.tab.lt G4.out.size) (fun k hk => (O4.out.lt k hk).1)
    have HB5 : Hid (Below w.heap.size w w5) := (S0.out.low HB2.out HG.out HB2.out.size).trans (F5.out.mono (Nat.le_succ_of_le HG.out))
    have S5 : Hid (St w5 g 0 false w5) := ⟨S0.out.tab.below F5.out (Nat.lt_succ_self g), Keep.refl g w5⟩
    have Q1 := Lib.hid ((H1.out.below HB5.out).at_ HG.out)
    have Q2 := Lib.hid ((H2.out.below HB5.out).at_ HG.out)
    have HL := Lib.hid HB5.out.size
    clear H1 H2 P1 P2 HB2 O4 G4 G5 F5 S0 HN
    go_wp2_with (first
      | (go_at_call 11; ((with_reducible refine (st_sum_one S5.out (by omega) (by omega) P5.out rfl).mono ?_); rintro e w6 ⟨rfl, hM⟩; have S6 := Lib.hid hM; clear hM))
      | (go_at_call 11; ((with_reducible refine (st_sum_two S6.out (by omega) (by omega) Q1.out Q2.out rfl).mono ?_); rintro e w7 ⟨rfl, hM⟩; have S7 := Lib.hid hM; clear hM))
      | (go_at_call 11; ((with_reducible refine (st_sum_one S7.out (by omega) (by omega) Q1.out rfl).mono ?_); rintro e w8 ⟨rfl, hM⟩; have S8 := Lib.hid hM; clear hM))
      | (go_at_call 13; ((with_reducible refine (st_update S8.out (by omega) (by omega) Q2.out).mono ?_); rintro e w9 ⟨rfl, hM⟩; have S9 := Lib.hid hM; clear hM))
      | (go_at_call 11; ((with_reducible refine (st_sum_one S9.out (by omega) (by omega) Q1.out rfl).mono ?_); rintro e w10 ⟨rfl, hM⟩; have S10 := Lib.hid hM; clear hM))
      | (go_at_call 11; ((with_reducible refine (st_sum_one S10.out (by omega) (by omega) Q2.out rfl).mono ?_); rintro e w11 ⟨rfl, hM⟩; have S11 := Lib.hid hM; clear hM))
      | (go_at_call 15; ((with_reducible refine (st_join S11.out (by omega) (by omega) HM.out).mono ?_); rintro e w12 ⟨rfl, hM⟩; have S12 := Lib.hid hM; clear hM))
      | (go_at_call 11; ((with_reducible refine (st_sum_one S12.out (by omega) (by omega) Q1.out rfl).mono ?_); rintro e w13 ⟨rfl, hM⟩; have S13 := Lib.hid hM; clear hM))
      | (go_at_call 13; ((with_reducible refine (st_update_none S13.out (by omega) (by omega)).mono ?_); rintro e w14 ⟨rfl, hM⟩; have S14 := Lib.hid hM; clear hM))
      | (go_at_call 11; ((with_reducible refine (st_sum_one S14.out (by omega) (by omega) Q1.out rfl).mono ?_); rintro e w15 ⟨rfl, hM⟩; have S15 := Lib.hid hM; clear hM)))
    go_ret
    exact ⟨rfl, S15.out.low HB5.out HG.out HL.out⟩

theorem crcParts_says : Frame.Says Rows.crcPartsSpec 2 := by
  refine ⟨rfl, fun H ds h => ?_, fun H ds h => ?_, fun H ds h => ?_⟩ <;>
  · match ds, h with
    | [d1, d2], _ => rfl

theorem crcParts_walks : Frame.Walks 4 [24, 24] := by
  intro H enc W args ds ps base hok hA hsz
  obtain ⟨v0, vs0, d0, ds0, p0, q0, hargs, rfl, rfl, h0, r0⟩ := trodAll_cons hA
  obtain ⟨v1, vs1, d1, ds1, p1, q1, rfl, rfl, rfl, h1, r1⟩ := trodAll_cons r0
  obtain ⟨rfl, rfl, rfl⟩ := trodAll_nil r1
  obtain rfl : args = #[v0, v1] := by cases args; simp_all
  obtain ⟨A, n, c, l, rfl, l0⟩ := open_bytes (hok 0 _ v0 rfl rfl) h0 (sized_arg hsz (j := 0) rfl rfl)
  obtain ⟨B, m, d, l', rfl, l1⟩ := open_bytes (hok 1 _ v1 rfl rfl) h1 (sized_arg hsz (j := 1) rfl rfl)
  exact crcParts_walk A n c l B m d l' W l0 l1

theorem crcParts_over : Rows.crcPartsRow.holds Try.pinned (OpenSpec.ofChange Rows.crcPartsSpec) :=
  OpenClaim.holds_of_wide 4 Try.f4 rfl rfl rfl rfl rfl rfl rfl ⟨rfl, rfl, rfl, rfl, rfl⟩ rfl rfl rfl rfl rfl (by kernel_rfl) Try.func4 (by kernel_rfl)
    (of_decide_eq_true (by kernel_rfl)) (by unfold Func.isWrapper; first | (rw [if_pos (by decide +kernel)]; kernel_rfl) | (rw [if_neg (by decide +kernel)]; exact ⟨rfl, rfl⟩))
    (fun os started H enc _ => Frame.lifted (started := started) Try.underlying4 (by kernel_rfl) Try.func4 (n := 2) (by rw [Try.params4]; rfl) crcParts_says (by rw [Try.params4]; kernel_rfl) (by kernel_rfl)
      (ChangeSpec.witness6 (enc := enc) (C := Try.checked) false ⟨#[], #[.slice none 0 0, .slice none 0 0], []⟩ 8 (by kernel_rfl) (by kernel_rfl) (by kernel_rfl) (by kernel_rfl))
      (by rw [Try.params4]; exact crcParts_walks))
end Crc
/-- The given statement. -/
theorem crcParts_holds : Rows.CrcPartsSaid := Crc.crcParts_over
end Go.Proofs.Ytbojfiabgjaaaaa
