/-
  WALKS: which extents, and which lists, may be: the document's tests; extent's own of a list that may be; how many blocks.
-/
import Derived.Test.YtnnphpfobdcmbaaExtOne
namespace Go.Proofs.Ytnnphpfobdcmbaa
open Go.RowKit Mem
namespace Ext

theorem mayE_walk (x : Ex) : mayE x = (!decide (x.lba < 0) && (!decide (x.n < 1) && (!decide (1099511627776 < x.n) && (!decide (1099511627776 - x.n < x.lba) && (!decide (x.ver < 0) &&
    (bif x.zone == -1 then x.off == 0 else decide (0 ≤ x.zone) && (decide (x.zone ≤ 1099511627776) && (decide (0 ≤ x.off) && decide (x.off ≤ 1125899906842624 - 16 * x.n))))))))) := by
  rw [Bool.eq_iff_iff, mayE_iff]
  unfold MayX
  by_cases h : x.zone = -1
  · have : (x.zone == -1) = true := by simpa using h
    simp only [this, cond_true, Bool.and_eq_true, beq_iff_eq, Bool.not_eq_true', decide_eq_false_iff_not]
    omega
  · have : (x.zone == -1) = false := by simpa using h
    simp only [this, cond_false, Bool.and_eq_true, decide_eq_true_eq, Bool.not_eq_true', decide_eq_false_iff_not]
    omega
set_option maxRecDepth 100000 in
set_option maxHeartbeats 3200000 in
theorem refMay_any (x : Ex) (w : World) : Calls Try.prog 21 #[xv x] w fun e w' => e = .returned (.bool (mayE x)) ∧ Below w.heap.size w w' := by
  have HM := Lib.hid (mayE_walk x)
  generalize mayE x = r at *
  have A1 : Hid (Below w.heap.size w (w.alloc (.cells #[.int .i64 x.lba, .int .i64 x.n, .int .i64 x.ver, .int .i64 x.zone, .int .i64 x.off] 32))) := (Below.refl _ w).alloc (Nat.le_refl _) _
  have B1 : Hid (LBox (w.alloc (.cells #[.int .i64 x.lba, .int .i64 x.n, .int .i64 x.ver, .int .i64 x.zone, .int .i64 x.off] 32)) w.heap.size x) := Cells.new _ _ _
  obtain ⟨n0, n1, n2, n3, n4⟩ := LBox.cells B1.out
  rcases f1 : decide (x.lba < 0)
  · rcases f2 : decide (x.n < 1)
    · rcases f3 : decide (1099511627776 < x.n)
      · have hw1 : IntKind.i64.wrap (1099511627776 - x.n) = 1099511627776 - x.n := by have := of_decide_eq_false f2; have := of_decide_eq_false f3; exact wrap_small (by omega) (by omega)
        rcases f4 : decide (1099511627776 - x.n < x.lba)
        · rcases f5 : decide (x.ver < 0)
          · rcases f6 : (x.zone == -1)
            · have hw2 : IntKind.i64.wrap (16 * x.n) = 16 * x.n := by have := of_decide_eq_false f2; have := of_decide_eq_false f3; exact wrap_small (by omega) (by omega)
              have hw3 : IntKind.i64.wrap (1125899906842624 - 16 * x.n) = 1125899906842624 - 16 * x.n := by have := of_decide_eq_false f2; have := of_decide_eq_false f3; exact wrap_small (by omega) (by omega)
              rcases g1 : decide (0 ≤ x.zone)
              · go_enter Try.func21, Try.ntmps21
                go_wp2_with fail
                go_ret
                exact ⟨by rw [HM.out, f1, f2, f3, f4, f5, f6, g1]; rfl, A1.out⟩
              · rcases g2 : decide (x.zone ≤ 1099511627776)
                · go_enter Try.func21, Try.ntmps21
                  go_wp2_with fail
                  go_ret
                  exact ⟨by rw [HM.out, f1, f2, f3, f4, f5, f6, g1, g2]; rfl, A1.out⟩
                · rcases g3 : decide (0 ≤ x.off)
                  · go_enter Try.func21, Try.ntmps21
                    go_wp2_with fail
                    go_ret
                    exact ⟨by rw [HM.out, f1, f2, f3, f4, f5, f6, g1, g2, g3]; rfl, A1.out⟩
                  · go_enter Try.func21, Try.ntmps21
                    go_wp2_with fail
                    go_ret
                    exact ⟨by rw [HM.out, f1, f2, f3, f4, f5, f6, g1, g2, g3]; rfl, A1.out⟩
            · go_enter Try.func21, Try.ntmps21
              go_wp2_with fail
              go_ret
              exact ⟨by rw [HM.out, f1, f2, f3, f4, f5, f6]; rfl, A1.out⟩
          · go_enter Try.func21, Try.ntmps21
            go_wp2_with fail
            go_ret
            exact ⟨by rw [HM.out, f1, f2, f3, f4, f5]; rfl, A1.out⟩
        · go_enter Try.func21, Try.ntmps21
          go_wp2_with fail
          go_ret
          exact ⟨by rw [HM.out, f1, f2, f3, f4]; rfl, A1.out⟩
      · go_enter Try.func21, Try.ntmps21
        go_wp2_with fail
        go_ret
        exact ⟨by rw [HM.out, f1, f2, f3]; rfl, A1.out⟩
    · go_enter Try.func21, Try.ntmps21
      go_wp2_with fail
      go_ret
      exact ⟨by rw [HM.out, f1, f2]; rfl, A1.out⟩
  · go_enter Try.func21, Try.ntmps21
    go_wp2_with fail
    go_ret
    exact ⟨by rw [HM.out, f1]; rfl, A1.out⟩

theorem take_split {l : List Ex} {k : Nat} {x : Ex} (hx : l[k]? = some x) : l = l.take k ++ x :: l.drop (k + 1) := by
  obtain ⟨h, rfl⟩ := List.getElem?_eq_some_iff.1 hx
  rw [← List.drop_eq_getElem_cons h, List.take_append_drop]
theorem take_snoc {l : List Ex} {k : Nat} {x : Ex} (hx : l[k]? = some x) : l.take (k + 1) = l.take k ++ [x] := by
  rw [List.take_add_one, hx]; rfl
def endF (f : Int) : List Ex → Int
  | [] => f
  | x :: r => endF x.en r
theorem endF_app (f : Int) (a b : List Ex) : endF f (a ++ b) = endF (endF f a) b := by
  induction a generalizing f with
  | nil => rfl
  | cons x r ih => exact ih _
theorem okF_app (f : Int) (a b : List Ex) : okF f (a ++ b) = (okF f a && okF (endF f a) b) := by
  induction a generalizing f with
  | nil => rfl
  | cons x r ih => simp only [List.cons_append, okF, endF, ih, Bool.and_assoc]
theorem okE_bad {l : List Ex} {k : Nat} {x : Ex} (hx : l[k]? = some x) (h : (mayE x && decide (endF 0 (l.take k) ≤ x.lba)) = false) : okE l = false := by
  unfold okE
  rw [take_split hx, okF_app, okF, h, Bool.false_and, Bool.and_false]
theorem okE_step {l : List Ex} {k : Nat} {x : Ex} (hx : l[k]? = some x) (hg : okF 0 (l.take k) = true) (h : (mayE x && decide (endF 0 (l.take k) ≤ x.lba)) = true) : endF 0 (l.take (k + 1)) = x.en ∧ okF 0 (l.take (k + 1)) = true := by
  rw [take_snoc hx, okF_app, endF_app, okF, hg, h]
  exact ⟨rfl, rfl⟩

set_option maxRecDepth 100000 in
set_option maxHeartbeats 3200000 in
theorem refCheck_any {A : Option Addr} {n c : Nat} {l : List Ex} {w : World} (h : RowL w A n c l) :
    Calls Try.prog 9 #[.slice A n c] w fun e w' => e = .returned (.int .i64 (errOf (okE l))) ∧ Below w.heap.size w w' := by
  have HR := Lib.hid h
  have hbig := h.big
  have hlen := Lib.hid h.len
  clear h
  have HB := Lib.hid (fun k x (hx : l[k]? = some x) h => okE_bad (l := l) hx h)
  have HO : Hid (okE l = okF 0 l) := rfl
  generalize okE l = ok at *
  go_enter Try.func9, Try.ntmps9
  go_wp2_with fail
  go_loopw [3, 5, 8] (fun s _ i wr => ∃ (k : Nat) (u : Int), i = .int .i64 k ∧ s = .int .i64 u ∧ k ≤ n ∧ Hid (Below w.heap.size w wr ∧ endF 0 (l.take k) = u ∧ okF 0 (l.take k) = true)) (fun _ _ i _ => n - (intOf i).toNat)
  case atStart => exact ⟨0, 0, rfl, rfl, by omega, Below.refl _ _, rfl, rfl⟩
  case round =>
    obtain ⟨k, u, rfl, rfl, hk, hH⟩ := hrel
    by_cases hlt : k < n
    · obtain ⟨x, hx⟩ := HR.out.get hlt
      obtain ⟨b, o, hA, d0, d1, d2, d3, d4⟩ := RowS.ext_at (HR.out.below hH.out.1) hx
      subst hA
      have HX := Lib.hid hx
      have hk0 : (0 : Int) ≤ (k : Int) := by omega
      have hkn : (k : Int) < (n : Int) := by omega
      clear hx
      have A1 : Hid (Below wr.heap.size wr (wr.alloc (.cells #[.int .i64 x.lba, .int .i64 x.n, .int .i64 x.ver, .int .i64 x.zone, .int .i64 x.off] 32))) := (Below.refl _ wr).alloc (Nat.le_refl _) _
      have B1 : Hid (LBox (wr.alloc (.cells #[.int .i64 x.lba, .int .i64 x.n, .int .i64 x.ver, .int .i64 x.zone, .int .i64 x.off] 32)) wr.heap.size x) := Cells.new _ _ _
      obtain ⟨n0, n1, n2, n3, n4⟩ := LBox.cells B1.out
      have HBAD : Hid ((mayE x && decide (u ≤ x.lba)) = false → ok = false) := by
        show _ → _
        intro hf
        exact HB.out k x HX.out (by rw [hH.out.2.1]; exact hf)
      have HM1 := fun w => Lib.hid (refMay_any x w)
      have HMX := Lib.hid (mayE_iff (x := x))
      go_upto_region 5 with fail
      generalize wr.alloc (.cells #[.int .i64 x.lba, .int .i64 x.n, .int .i64 x.ver, .int .i64 x.zone, .int .i64 x.off] 32) = w1 at *
      have L1 := Lib.hid (hH.out.1.trans (A1.out.mono hH.out.1.size))
      clear d0 d1 d2 d3 d4 A1
      rcases f1 : mayE x
      · rw [f1] at HM1
        have HBB := Lib.hid (HBAD.out (by rw [f1]; rfl))
        clear HBAD f1
        go_wp2_with (go_at_call 21; refine (HM1 _).out.mono ?_; rintro e w2 ⟨rfl, hb⟩; have L2 := Lib.hid (L1.out.trans (hb.mono L1.out.size)); have B2 := Lib.hid (Cells.below B1.out hb); clear hb; obtain ⟨m0, m1, m2, m3, m4⟩ := LBox.cells B2.out)
        go_ret
        exact ⟨by rw [HBB.out]; rfl, L2.out⟩
      · rw [f1] at HM1
        rcases f2 : decide (x.lba < u)
        · have HSS := Lib.hid (okE_step HX.out hH.out.2.2 (by rw [hH.out.2.1, f1, Bool.true_and]; exact decide_eq_true (by have := of_decide_eq_false f2; omega)))
          have hw : IntKind.i64.wrap (x.lba + x.n) = x.lba + x.n := by obtain ⟨h1, h2, h3, -⟩ := HMX.out.1 f1; exact wrap_small (by omega) (by omega)
          clear HBAD f1
          go_wp2_with (go_at_call 21; refine (HM1 _).out.mono ?_; rintro e w2 ⟨rfl, hb⟩; have L2 := Lib.hid (L1.out.trans (hb.mono L1.out.size)); have B2 := Lib.hid (Cells.below B1.out hb); clear hb; obtain ⟨m0, m1, m2, m3, m4⟩ := LBox.cells B2.out)
          go_roundw
          case rel => exact ⟨k + 1, x.lba + x.n, by go_num, rfl, by omega, L2.out, HSS.out.1, HSS.out.2⟩
          case measure => simp [intOf]; omega
        · have HBB := Lib.hid (HBAD.out (by rw [f1, Bool.true_and]; exact decide_eq_false (by have := of_decide_eq_true f2; omega)))
          clear HBAD f1
          go_wp2_with (go_at_call 21; refine (HM1 _).out.mono ?_; rintro e w2 ⟨rfl, hb⟩; have L2 := Lib.hid (L1.out.trans (hb.mono L1.out.size)); have B2 := Lib.hid (Cells.below B1.out hb); clear hb; obtain ⟨m0, m1, m2, m3, m4⟩ := LBox.cells B2.out)
          go_ret
          exact ⟨by rw [HBB.out]; rfl, L2.out⟩
    · have hkn : l.take k = l := List.take_of_length_le (by have := hlen.out; omega)
      have HK := Lib.hid (show ok = true by rw [HO.out, ← hkn]; exact hH.out.2.2)
      clear hkn
      go_wp2_with fail
      go_ret
      exact ⟨by rw [HK.out]; rfl, hH.out.1⟩

theorem Ok.at_ {f : Int} {l : List Ex} (h : Ok f l) {k : Nat} {x : Ex} (hx : l[k]? = some x) : MayX x ∧ endF f (l.take k) ≤ x.lba := by
  have h' := h
  rw [take_split hx, ← okF_iff, okF_app, okF, Bool.and_eq_true, Bool.and_eq_true, Bool.and_eq_true, mayE_iff, decide_eq_true_eq] at h'
  exact h'.2.1

theorem Ok.pair {f : Int} {l : List Ex} (h : Ok f l) {i j : Nat} (hij : i < j) {x y : Ex} (hx : l[i]? = some x) (hy : l[j]? = some y) : x.en ≤ y.lba := by
  rw [← List.take_append_drop (i + 1) l] at h
  obtain ⟨-, g, h2, h3, -⟩ := ok_split h
  have hxm : x ∈ l.take (i + 1) := List.mem_of_getElem? (i := i) (by rw [List.getElem?_take, if_pos (by omega)]; exact hx)
  have hym : y ∈ l.drop (i + 1) := List.mem_of_getElem? (i := j - (i + 1)) (by rw [List.getElem?_drop, show i + 1 + (j - (i + 1)) = j by omega]; exact hy)
  exact Int.le_trans (h3 x hxm) (h2.from y hym)
theorem Ok.en_mono {f : Int} {l : List Ex} (h : Ok f l) {i j : Nat} (hij : i ≤ j) {x y : Ex} (hx : l[i]? = some x) (hy : l[j]? = some y) : x.en ≤ y.en := by
  rcases Nat.eq_or_lt_of_le hij with rfl | hlt
  · rw [hx] at hy; injection hy with hy; subst hy; exact Int.le_refl _
  · have h1 := h.pair hlt hx hy
    have h2 := en_lt (h.at_ hy).1
    omega
theorem Ok.lba_mono {f : Int} {l : List Ex} (h : Ok f l) {i j : Nat} (hij : i ≤ j) {x y : Ex} (hx : l[i]? = some x) (hy : l[j]? = some y) : x.lba ≤ y.lba := by
  rcases Nat.eq_or_lt_of_le hij with rfl | hlt
  · rw [hx] at hy; injection hy with hy; subst hy; exact Int.le_refl _
  · have h1 := h.pair hlt hx hy
    have h2 := en_lt (h.at_ hx).1
    omega

set_option maxRecDepth 100000 in
set_option maxHeartbeats 3200000 in
theorem check_ok {A : Option Addr} {n c : Nat} {l : List Ex} {w : World} (h : RowL w A n c l) (hok : Ok 0 l) :
    Calls Try.prog 22 #[.slice A n c] w fun e w' => e = .returned (.int .i64 0) ∧ Below w.heap.size w w' := by
  have HR := Lib.hid h
  have hbig := h.big
  have hlen := Lib.hid h.len
  have HOK := Lib.hid hok
  clear h hok
  go_enter Try.func22, Try.ntmps22
  go_wp2_with fail
  go_loopw [3, 5, 8] (fun s _ i wr => ∃ (k : Nat) (u : Int), i = .int .i64 k ∧ s = .int .i64 u ∧ k ≤ n ∧ Hid (Below w.heap.size w wr ∧ endF 0 (l.take k) = u)) (fun _ _ i _ => n - (intOf i).toNat)
  case atStart => exact ⟨0, 0, rfl, rfl, by omega, Below.refl _ _, rfl⟩
  case round =>
    obtain ⟨k, u, rfl, rfl, hk, hH⟩ := hrel
    by_cases hlt : k < n
    · obtain ⟨x, hx⟩ := HR.out.get hlt
      obtain ⟨b, o, hA, d0, d1, d2, d3, d4⟩ := RowS.ext_at (HR.out.below hH.out.1) hx
      subst hA
      obtain ⟨hmx, hle⟩ := HOK.out.at_ hx
      have hk0 : (0 : Int) ≤ (k : Int) := by omega
      have hkn : (k : Int) < (n : Int) := by omega
      have f2 : decide (x.lba < u) = false := decide_eq_false (by have := hH.out.2; omega)
      have HSS : Hid (endF 0 (l.take (k + 1)) = x.en) := by show _ = _; rw [take_snoc hx, endF_app]; rfl
      clear hx hle
      have A1 : Hid (Below wr.heap.size wr (wr.alloc (.cells #[.int .i64 x.lba, .int .i64 x.n, .int .i64 x.ver, .int .i64 x.zone, .int .i64 x.off] 32))) := (Below.refl _ wr).alloc (Nat.le_refl _) _
      have B1 : Hid (LBox (wr.alloc (.cells #[.int .i64 x.lba, .int .i64 x.n, .int .i64 x.ver, .int .i64 x.zone, .int .i64 x.off] 32)) wr.heap.size x) := Cells.new _ _ _
      obtain ⟨n0, n1, n2, n3, n4⟩ := LBox.cells B1.out
      have HM1 := fun w => Lib.hid (mayBe_any x hmx w)
      have HE1 := fun w => Lib.hid (end_any x hmx w)
      clear hmx
      go_upto_region 5 with fail
      generalize wr.alloc (.cells #[.int .i64 x.lba, .int .i64 x.n, .int .i64 x.ver, .int .i64 x.zone, .int .i64 x.off] 32) = w1 at *
      have L1 := Lib.hid (hH.out.1.trans (A1.out.mono hH.out.1.size))
      clear d0 d1 d2 d3 d4 A1
      go_wp2_with (first | (go_at_call 40; refine (HM1 _).out.mono ?_; rintro e w2 ⟨rfl, hb⟩; have L2 := Lib.hid (L1.out.trans (hb.mono L1.out.size)); have B2 := Lib.hid (Cells.below B1.out hb); clear hb; obtain ⟨m0, m1, m2, m3, m4⟩ := LBox.cells B2.out) | (go_at_call 41; refine (HE1 _).out.mono ?_; rintro e w3 ⟨rfl, hb⟩; have L3 := Lib.hid (L2.out.trans (hb.mono L2.out.size)); clear hb) | fail)
      go_roundw
      case rel => exact ⟨k + 1, x.en, by go_num, rfl, by omega, L3.out, HSS.out⟩
      case measure => simp [intOf]; omega
    · go_wp2_with fail
      go_ret
      exact ⟨rfl, hH.out.1⟩

theorem manyE_app (a b : List Ex) : manyE (a ++ b) = manyE a + manyE b := by
  induction a with
  | nil => show _ = 0 + _; rw [Int.zero_add]; rfl
  | cons x r ih => rw [List.cons_append, manyE, manyE, ih, Int.add_assoc]

end Ext
end Go.Proofs.Ytnnphpfobdcmbaa
