/-
  SEVERAL TEXTS IN ONE FILE: SpaTake.
-/
import Derived.Test.YtmflngclncidjaaGreatJ16
import Derived.Test.YtmflngclncidjaaGreatJ17
import Derived.Test.YtmflngclncidjaaGreatJ15
/-
  WALKS: Take, by span and by the document.
-/
namespace Go.Proofs.YtmflngclncidjaaGreat
open Go.RowKit Mem
namespace Spa

theorem Cells.grown {w w' : World} {row : Option Nat} {g : Nat} {t : TypeId} {cs : Array Value} (h : Cells w g t cs) (hg : w.grownBy w' row) (hne : row ≠ some g) : Cells w' g t cs := (hg.block g (Cells.lt h) (fun e => hne e.symm)).trans h
theorem OwnsL.off {base p : Nat} {w : World} {s : Value} {n : Nat} {xs : List Sp} (h : OwnsL base w s n xs) (hp : w.heap.size ≤ p) : s.ownBlock ≠ some p := fun e => by have := (h.lt p e).2; omega
/-- A row whose block lies below what may change. -/
theorem OwnsL.low {base g n d B : Nat} {w w' : World} {xs : List Sp} (h : OwnsL base w (.slice (some ⟨g, 0, none⟩) n d) n xs) (hg : g < B) (hb : Below B w w') : OwnsL base w' (.slice (some ⟨g, 0, none⟩) n d) n xs := by
  refine ⟨⟨h.1.1, ?_⟩, h.2⟩
  rcases h.1.2 with hn | ⟨q, cap, cur, e', hbg, hq, r⟩
  · exact .inl hn
  · injection e' with e1 e2 e3
    injection e1 with e1
    injection e1 with e1
    subst e1 e3
    exact .inr ⟨g, d, cur, rfl, hbg, (hb.block _ hg).trans hq, r⟩
theorem But.whole (w : World) (g k : Nat) (y : Sp) : But g w (set4W w g k y) := by
  unfold set4W
  exact (But.set1 _ _ _ _).trans ((But.set1 _ _ _ _).trans ((But.set1 _ _ _ _).trans (But.set1 _ _ _ _)))
/-- Two rows of spans and an error, as a call gave them. -/
def GaveSS (w : World) (r : List Sp × List Sp × Int) (en : Ending) (w' : World) : Prop :=
  ∃ B d C f, en = .returned (.tuple #[.slice B r.1.length d, .slice C r.2.1.length f, .int .i64 r.2.2]) ∧ RowL w' B r.1.length d r.1 ∧ RowL w' C r.2.1.length f r.2.1 ∧ Below w.heap.size w w'
theorem GaveSS.none_ {w w' : World} {e : Int} (hb : Below w.heap.size w w') : GaveSS w ([], [], e) (.returned (.tuple #[.slice none 0 0, .slice none 0 0, .int .i64 e])) w' := ⟨none, 0, none, 0, rfl, RowS.nil _ _ _, RowS.nil _ _ _, hb⟩
theorem GaveSS.of {w w' : World} {B C : Option Addr} {m d k f : Nat} {l r : List Sp} {e : Int} (h : RowL w' B m d l) (h2 : RowL w' C k f r) (hb : Below w.heap.size w w') : GaveSS w (l, r, e) (.returned (.tuple #[.slice B m d, .slice C k f, .int .i64 e])) w' := by
  have e1 := h.len
  have e2 := h2.len
  subst e1 e2
  exact ⟨B, d, C, f, rfl, h, h2, hb⟩
/-- The same, the first row being the call's own. -/
def OwnedSS (w : World) (r : List Sp × List Sp × Int) (en : Ending) (w' : World) : Prop :=
  ∃ B d C f, en = .returned (.tuple #[.slice B r.1.length d, .slice C r.2.1.length f, .int .i64 r.2.2]) ∧ RowL w' B r.1.length d r.1 ∧ RowL w' C r.2.1.length f r.2.1 ∧ OwnsL w.heap.size w' (.slice B r.1.length d) r.1.length r.1 ∧ Below w.heap.size w w'
theorem OwnedSS.gave {w w' : World} {r : List Sp × List Sp × Int} {en : Ending} (h : OwnedSS w r en w') : GaveSS w r en w' := by
  obtain ⟨B, d, C, f, h1, h2, h3, -, h4⟩ := h
  exact ⟨B, d, C, f, h1, h2, h3, h4⟩
theorem OwnedSS.none_ {w w' : World} {e : Int} (hb : Below w.heap.size w w') : OwnedSS w ([], [], e) (.returned (.tuple #[.slice none 0 0, .slice none 0 0, .int .i64 e])) w' := ⟨none, 0, none, 0, rfl, RowS.nil _ _ _, RowS.nil _ _ _, OwnsL.nil _ _, hb⟩
theorem OwnedSS.of {w w' : World} {B C : Option Addr} {m d k f : Nat} {l r : List Sp} {e : Int} (h : RowL w' B m d l) (h2 : RowL w' C k f r) (h3 : OwnsL w.heap.size w' (.slice B m d) m l) (hb : Below w.heap.size w w') : OwnedSS w (l, r, e) (.returned (.tuple #[.slice B m d, .slice C k f, .int .i64 e])) w' := by
  have e1 := h.len
  have e2 := h2.len
  subst e1 e2
  exact ⟨B, d, C, f, rfl, h, h2, h3, hb⟩
theorem were_snoc {l : List Sp} {k : Nat} {x : Sp} (hx : l[k]? = some x) (o : Int) : wereS (l.take (k + 1)) o = wereS (l.take k) o ++ (bif x.own == o then [x] else []) := by
  unfold wereS
  rw [take_snoc hx, List.filter_append, List.filter_cons, List.filter_nil]
  rcases (x.own == o) <;> rfl
theorem free_next {l : List Sp} {k : Nat} {x : Sp} (hx : l[k]? = some x) (o : Int) : ((l.take k).map (freeS o) ++ l.drop k).set k (freeS o x) = (l.take (k + 1)).map (freeS o) ++ l.drop (k + 1) := by
  have hk := (List.getElem?_eq_some_iff.1 hx).1
  have hl : ((l.take k).map (freeS o)).length = k := by rw [List.length_map, List.length_take]; omega
  rw [take_snoc hx, List.map_append, List.append_assoc]
  rw [List.set_append_right _ _ (by omega), hl, Nat.sub_self]
  have : l.drop k = x :: l.drop (k + 1) := by obtain ⟨h, rfl⟩ := List.getElem?_eq_some_iff.1 hx; exact List.drop_eq_getElem_cons h
  rw [this]; rfl
theorem free_at {l : List Sp} {k : Nat} {x : Sp} (hx : l[k]? = some x) (o : Int) : ((l.take k).map (freeS o) ++ l.drop k)[k]? = some x := by
  have hk := (List.getElem?_eq_some_iff.1 hx).1
  have hl : ((l.take k).map (freeS o)).length = k := by rw [List.length_map, List.length_take]; omega
  rw [List.getElem?_append_right (by omega), hl, Nat.sub_self, List.getElem?_drop]; exact hx
theorem free_same {l : List Sp} {k : Nat} {x : Sp} (hx : l[k]? = some x) (o : Int) (hf : freeS o x = x) : (l.take k).map (freeS o) ++ l.drop k = (l.take (k + 1)).map (freeS o) ++ l.drop (k + 1) := by
  rw [← free_next hx o, hf]
  symm
  apply List.ext_getElem?
  intro i
  rw [List.getElem?_set]
  split
  · rename_i h
    subst h
    rw [free_at hx o, if_pos (by have := (List.getElem?_eq_some_iff.1 (free_at hx o)).1; exact this)]
  · rfl

set_option maxRecDepth 100000 in
set_option maxHeartbeats 6400000 in
theorem take_own {A : Option Addr} {n c : Nat} {l : List Sp} {w : World} (o : Int) (h : RowL w A n c l) (hn : n ≤ 1000000) :
    Calls Tryz.prog 96 #[.slice A n c, .int .i64 o] w (OwnedSS w (takeP l o)) := by
  have HR := Lib.hid h
  have hbig := h.big
  have hlen := Lib.hid h.len
  have HH := fun w => Lib.hid (host_any o w)
  clear h
  unfold takeP
  rcases hok : okS l
  · have HC := fun w (h : RowL w A n c l) => Lib.hid (check_badT h hok)
    go_enter Tryz.func96, Tryz.ntmps96
    go_wp2_with fail
    refine (HC w HR.out).out.mono ?_
    rintro e w2 ⟨rfl, hb⟩
    have L2 := Lib.hid hb
    clear hb
    go_wp2_with fail
    go_ret3
    exact OwnedSS.none_ L2.out
  · have HC := fun w (h : RowL w A n c l) => Lib.hid (check_okT h hok)
    have hn0 : 0 < n := by
      have := (okS_iff.1 hok).2.2.1
      rcases Nat.eq_zero_or_pos n with h0 | h0
      · exact absurd (List.eq_nil_of_length_eq_zero (by rw [hlen.out, h0])) this
      · exact h0
    clear hok
    rcases ho : hostB o
    · rw [ho] at HH
      go_enter Tryz.func96, Tryz.ntmps96
      go_wp2_with fail
      refine (HC w HR.out).out.mono ?_
      rintro e w2 ⟨rfl, hb⟩
      have L2 := Lib.hid hb
      clear hb
      go_wp2_with fail
      refine (HH w2).out.mono ?_
      rintro e w3 ⟨rfl, rfl⟩
      go_wp2_with fail
      go_ret3
      exact OwnedSS.none_ L2.out
    · rw [ho] at HH
      have HCL := fun w (h : RowL w A n c l) => Lib.hid (clone_any h hn)
      go_enter Tryz.func96, Tryz.ntmps96
      go_wp2_with fail
      refine (HC w HR.out).out.mono ?_
      rintro e w2 ⟨rfl, hb⟩
      have L2 := Lib.hid hb
      clear hb HC
      go_wp2_with fail
      refine (HH w2).out.mono ?_
      rintro e w3 ⟨rfl, rfl⟩
      clear HH
      go_wp2_with fail
      refine (HCL w3 (HR.out.below L2.out)).out.mono ?_
      rintro e w4 ⟨⟨B, d, rfl, hO⟩, hb⟩
      have L4 := Lib.hid (L2.out.trans (hb.mono L2.out.size))
      have O4 := Lib.hid (hO.mono L2.out.size)
      clear hb hO HCL L2
      obtain ⟨x0, hx0⟩ := HR.out.get hn0
      obtain ⟨g, hB, hge, hgl, -, -, -⟩ := OwnsL.put O4.out hx0
      subst hB
      have HG := Lib.hid (And.intro hge hgl)
      clear hge hgl hx0
      go_wp2_with fail
      go_loopw [8, 9, 10, 23] (fun s _ _ i wr => ∃ (k : Nat) (Y : Option Addr) (m f : Nat), i = .int .i64 k ∧ s = .slice Y m f ∧ k ≤ n ∧ m ≤ k ∧ Hid (Below w.heap.size w wr ∧ w4.heap.size ≤ wr.heap.size ∧ OwnsL w.heap.size wr (.slice (some ⟨g, 0, none⟩) n d) n ((l.take k).map (freeS o) ++ l.drop k) ∧ OwnsL w4.heap.size wr (.slice Y m f) m (wereS (l.take k) o))) (fun _ _ _ i _ => n - (intOf i).toNat)
      case atStart => exact ⟨0, none, 0, 0, rfl, rfl, by omega, by omega, L4.out, Nat.le_refl _, O4.out, OwnsL.nil _ _⟩
      case round =>
        obtain ⟨k, Y, m, f, rfl, rfl, hk, hm, hH⟩ := hrel
        by_cases hlt : k < n
        · obtain ⟨x, hx⟩ := HR.out.get hlt
          obtain ⟨b, q, hA, d0, d1, d2, d3⟩ := RowS.span_at (HR.out.below hH.out.1) hx
          subst hA
          have hk0 : (0 : Int) ≤ (k : Int) := by omega
          have hkn : (k : Int) < (n : Int) := by omega
          have hmk : m ≤ 1000000 := by omega
          have HX := Lib.hid hx
          clear hx
          have A1 : Hid (Below wr.heap.size wr (wr.alloc (.cells #[.int .i64 x.fr, .int .i64 x.to, .int .i64 x.own, .int .i64 x.ep] 48))) := (Below.refl _ wr).alloc (Nat.le_refl _) _
          have B1 : Hid (LBox (wr.alloc (.cells #[.int .i64 x.fr, .int .i64 x.to, .int .i64 x.own, .int .i64 x.ep] 48)) wr.heap.size x) := Cells.new _ _ _
          obtain ⟨n0, n1, n2, n3⟩ := LBox.cells B1.out
          go_upto_region 8 with fail
          generalize wr.alloc (.cells #[.int .i64 x.fr, .int .i64 x.to, .int .i64 x.own, .int .i64 x.ep] 48) = w1 at *
          clear d0 d1 d2 d3
          have L1 := Lib.hid (hH.out.1.trans (A1.out.mono hH.out.1.size))
          have S1 := Lib.hid (Nat.le_trans hH.out.2.1 A1.out.size)
          have E1 := Lib.hid (OwnsL.below hH.out.2.2.1 A1.out)
          have Y1 := Lib.hid (OwnsL.below hH.out.2.2.2 A1.out)
          rcases f1 : (x.own == o)
          · have HF : Hid (freeS o x = x) := by show _ = _; unfold freeS; rw [f1]; rfl
            have HW : Hid (wereS (l.take (k + 1)) o = wereS (l.take k) o) := by show _ = _; rw [were_snoc HX.out, f1]; simp
            go_wp2_with fail
            go_roundw
            case rel => exact ⟨k + 1, Y, m, f, by go_num, rfl, by omega, by omega, L1.out, S1.out, by rw [← free_same HX.out o HF.out]; exact E1.out, by rw [HW.out]; exact Y1.out⟩
            case measure => simp [intOf]; omega
          · have HF : Hid (freeS o x = ⟨x.fr, x.to, -1, 0⟩) := by show _ = _; unfold freeS; rw [f1]; rfl
            have HW : Hid (wereS (l.take (k + 1)) o = wereS (l.take k) o ++ [x]) := by show _ = _; rw [were_snoc HX.out, f1]; rfl
            have OFF := Lib.hid (OwnsL.off hH.out.2.2.2 (Nat.le_refl _))
            have A3 : Hid (Below w1.heap.size w1 (w1.alloc (.cells #[.int .i64 x.fr, .int .i64 x.to, .int .i64 x.own, .int .i64 x.ep] 48))) := (Below.refl _ w1).alloc (Nat.le_refl _) _
            have B3 : Hid (LBox (w1.alloc (.cells #[.int .i64 x.fr, .int .i64 x.to, .int .i64 x.own, .int .i64 x.ep] 48)) w1.heap.size x) := Cells.new _ _ _
            have B3' := Lib.hid (Cells.below B1.out A3.out)
            have Y3 := Lib.hid (OwnsL.below Y1.out A3.out)
            have E3 := Lib.hid (OwnsL.below E1.out A3.out)
            have L3 := Lib.hid (L1.out.trans (A3.out.mono L1.out.size))
            have S3 := Lib.hid (Nat.le_trans S1.out A3.out.size)
            have HNO := fun w => Lib.hid (noOnes_any x.fr x.to w)
            go_upto_region 10 with (at_builtin
                                    refine wpList_append_l rfl (.tmp 32) (.tmp 34) rfl rfl w4.heap.size _ m _ rfl Y3.out _ 1 1 [x] rfl (RowS.one B3.out) (by omega) S3.out ?_
                                    intro A' c' w' h1 h2 h3
                                    have Y4 := Lib.hid h1
                                    have N4 := Lib.hid (below_row Y3.out h2 S3.out)
                                    have B4 := Lib.hid (Cells.grown B3'.out h2 OFF.out)
                                    clear h1 h2 h3)
            have L5 := Lib.hid (L3.out.trans (N4.out.mono (Nat.le_trans HG.out.1 (Nat.le_of_lt HG.out.2))))
            have E4 := Lib.hid (OwnsL.low E3.out HG.out.2 N4.out)
            have S4 := Lib.hid (Nat.le_trans S3.out N4.out.size)
            clear n0 n1 n2 n3 E3 Y3 B3 B3' A3 E1 Y1 L3 S3 N4 OFF
            obtain ⟨n0, n1, n2, n3⟩ := LBox.cells B4.out
            go_wp2_with fail
            refine (HNO w').out.mono ?_
            rintro e w6 ⟨rfl, hb⟩
            have L6 := Lib.hid (L5.out.trans (hb.mono L5.out.size))
            have E6 := Lib.hid (OwnsL.below E4.out hb)
            have Y6 := Lib.hid (OwnsL.below Y4.out hb)
            have S6 := Lib.hid (Nat.le_trans S4.out hb.size)
            clear hb n0 n1 n2 n3 HNO
            obtain ⟨g', hB, -, -, ⟨q0, q1, q2, q3⟩, hfz, -⟩ := OwnsL.put E6.out (free_at HX.out o)
            injection hB with hB
            injection hB with hB
            subst hB
            have E7 := Lib.hid (OwnsL.put4 E6.out (free_at HX.out o) ⟨x.fr, x.to, -1, 0⟩)
            have L7 : Hid (Below w.heap.size w (set4W w6 g k ⟨x.fr, x.to, -1, 0⟩)) := (L6.out).trans ((But.whole w6 g k _).below L6.out.size HG.out.1)
            have Y7 : Hid (OwnsL w4.heap.size (set4W w6 g k ⟨x.fr, x.to, -1, 0⟩) (.slice A' (m + 1) c') (m + 1) (wereS (l.take k) o ++ [x])) := OwnsL.but Y6.out (But.whole w6 g k _) HG.out.2
            have S7 := Lib.hid (Nat.le_trans S6.out (But.whole w6 g k ⟨x.fr, x.to, -1, 0⟩).size)
            have hf0 := hfz (k * 4)
            have hf1 := hfz (k * 4 + 1)
            have hf2 := hfz (k * 4 + 2)
            have hf3 := hfz (k * 4 + 3)
            clear hfz
            go_wp2_with fail
            go_roundw
            case rel => exact ⟨k + 1, A', m + 1, c', by go_num, rfl, by omega, by omega, L7.out, S7.out, by rw [← free_next HX.out o, HF.out]; exact E7.out, by rw [HW.out]; exact Y7.out⟩
            case measure => simp [intOf]; omega
        · have hkn : l.take k = l := List.take_of_length_le (by have := hlen.out; omega)
          have hkd : l.drop k = [] := List.drop_eq_nil_of_le (by have := hlen.out; omega)
          have h := hH.out
          rw [hkn, hkd, List.append_nil] at h
          have HE := Lib.hid h
          clear h hkn hkd hH
          have RE := Lib.hid (OwnsL.row HE.out.2.2.1 (by omega))
          have RY := Lib.hid (OwnsL.row HE.out.2.2.2 (by omega))
          have HJ := fun w (h : RowL w (some ⟨g, 0, none⟩) n d (l.map (freeS o))) => Lib.hid (joined_any h hn)
          go_wp2_with fail
          refine (HJ wr RE.out).out.mono ?_
          rintro e w9 ⟨⟨C, j, p, rfl, hj, hO⟩, hb⟩
          have L9 := Lib.hid (HE.out.1.trans (hb.mono HE.out.1.size))
          have R9 := Lib.hid (OwnsL.row hO (by omega))
          have Y9 := Lib.hid (RowS.below RY.out hb)
          have P9 := Lib.hid hO
          clear hb hO HJ
          go_wp2_with fail
          go_ret3
          exact OwnedSS.of R9.out Y9.out (P9.out.mono HE.out.1.size) L9.out
theorem take_any {A : Option Addr} {n c : Nat} {l : List Sp} {w : World} (o : Int) (h : RowL w A n c l) (hn : n ≤ 1000000) :
    Calls Tryz.prog 96 #[.slice A n c, .int .i64 o] w (GaveSS w (takeP l o)) := by
  exact (take_own o h hn).mono fun _ _ h => h.gave
end Spa
end Go.Proofs.YtmflngclncidjaaGreat
