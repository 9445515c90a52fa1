/-
  A WALK: the document's own Check.
-/
import Derived.Test.YtndcflchdecofaaDedCheck
namespace Go.Proofs.Ytndcflchdecofaa
open Go.RowKit Mem Box
namespace Ded

/-- The number ahead of the k-th, or what stands for it. -/
def Ahead (vs : List Int) (k : Nat) (dflt z : Int) : Prop := (k = 0 ∧ z = dflt) ∨ (0 < k ∧ vs[k - 1]? = some z)
theorem ahead_next {least : Int} {vs : List Int} {k : Nat} {z v : Int} (h : risesB least (vs.take k) = true) (ha : Ahead vs k (least - 1) z) (hv : vs[k]? = some v) (hz : z < v) : risesB least (vs.take (k + 1)) = true := by
  rcases ha with ⟨h0, h1⟩ | ⟨h0, h1⟩
  · exact rises_next h hv (by omega) (.inl h0)
  · refine rises_next h hv ?_ (.inr ⟨z, h1, hz⟩)
    have : z ∈ vs.take k := List.mem_iff_getElem?.2 ⟨k - 1, by rw [List.getElem?_take, if_pos (by omega)]; exact h1⟩
    have := ((rises_iff _ _).1 h).1 z this
    omega
theorem ahead_not {least : Int} {vs : List Int} {k : Nat} {z v : Int} (ha : Ahead vs k (least - 1) z) (hv : vs[k]? = some v) (hz : v ≤ z) : risesB least vs = false := by
  rcases ha with ⟨h0, h1⟩ | ⟨h0, h1⟩
  · exact rises_not hv (.inl (by omega))
  · exact rises_not hv (.inr ⟨h0, z, h1, hz⟩)
theorem ahead_step {vs : List Int} {k : Nat} {v d : Int} (hv : vs[k]? = some v) : Ahead vs (k + 1) d v := .inr ⟨by omega, hv⟩
set_option maxRecDepth 100000 in
set_option maxHeartbeats 12800000 in
theorem refCheck_any {A : Option Addr} {n c : Nat} {l : List Sx} {w : World} (h : ListAt w A n c l) (hb : ∀ x ∈ l, x.b ≤ 2305843009213693952) :
    Calls Try.prog 10 #[.slice A n c] w fun e w' => e = .returned (.int .i64 (errP (l.map Sx.p))) ∧ Below w.heap.size w w' := by
  obtain ⟨r, hr⟩ : ∃ r, r = errP (l.map Sx.p) := ⟨_, rfl⟩
  rw [← hr]
  have H := Lib.hid h
  have HBB := Lib.hid hb
  have HL := Lib.hid h.row.len
  have HBIG := h.row.big
  have em : (l.map Sx.p).map Sp.f = l.map Sx.f := by rw [List.map_map]; rfl
  have H0 : Hid (risesB 0 (l.map Sx.f) = true → (∀ s ∈ l, okS s.p = true) → r = 0) := fun h1 h2 => by
    rw [hr]
    unfold errP okL
    rw [em, h1, List.all_map, show l.all (okS ∘ Sx.p) = true from List.all_eq_true.2 fun x hx => h2 x hx]
    rfl
  have HF1 : Hid (risesB 0 (l.map Sx.f) = false → r = 1) := fun h1 => by
    rw [hr]
    unfold errP okL
    rw [em, h1]
    rfl
  have HF2 : Hid (∀ s ∈ l, okS s.p = false → r = 1) := fun s hs h1 => by
    rw [hr]
    unfold errP okL
    rw [List.all_map]
    have : l.all (okS ∘ Sx.p) = false := by
      rw [Bool.eq_false_iff]
      intro h2
      have := List.all_eq_true.1 h2 s hs
      rw [show (okS ∘ Sx.p) s = okS s.p from rfl, h1] at this
      cases this
    rw [this, Bool.and_false]
    rfl
  clear h hb hr em
  go_enter Try.func10, Try.ntmps10
  go_wp2
  go_loopw [3, 5, 6, 8, 11] (fun s3 _ _ _ i wr => ∃ (k : Nat) (z : Int), s3 = .int .i64 z ∧ i = .int .i64 k ∧ k ≤ n ∧ Hid (Below w.heap.size w wr) ∧ Hid (risesB 0 ((l.map Sx.f).take k) = true) ∧ Hid (Ahead (l.map Sx.f) k (0 - 1) z) ∧ Hid (∀ j x, j < k → l[j]? = some x → okS x.p = true)) (fun _ _ _ _ i _ => n - (intOf i).toNat)
  case atStart => exact ⟨0, -1, rfl, rfl, by omega, Lib.hid (Below.refl _ _), Lib.hid rfl, Lib.hid (.inl ⟨rfl, rfl⟩), Lib.hid (fun j x hj => absurd hj (Nat.not_lt_zero _))⟩
  case round =>
    obtain ⟨k, z, rfl, rfl, hk, L1, R1, A1, S1⟩ := hrel
    by_cases hlt : k < n
    · obtain ⟨x, hx, hxx⟩ := H.out.get hlt
      obtain ⟨b, o, hA, -, hc⟩ := H.out.cells hx
      obtain ⟨c0, c1, c2⟩ := hc _ L1.out
      have HX := Lib.hid hx
      have HXX := Lib.hid hxx
      have HXM := Lib.hid (List.mem_of_getElem? hx)
      have HV : Hid ((l.map Sx.f)[k]? = some x.f) := by show _ = _; rw [List.getElem?_map, hx]; rfl
      have hk0 : (0 : Int) ≤ (k : Int) := by omega
      have hkn : (k : Int) < (n : Int) := by omega
      subst hA
      clear hx hxx hc
      go_upto_region 5 with fail
      have b2 : Below wr.heap.size wr (wr.alloc (.cells #[.int .i64 x.f, .int .i64 x.b, .slice x.A x.n x.c] 51)) := (Below.refl _ wr).alloc (Nat.le_refl _) _
      have L2 := Lib.hid (L1.out.trans (b2.mono L1.out.size))
      have X2 : Hid (SBox (wr.alloc (.cells #[.int .i64 x.f, .int .i64 x.b, .slice x.A x.n x.c] 51)) wr.heap.size x) := Cells.new _ _ _
      clear b2 c0 c1 c2 L1
      generalize wr.alloc (.cells #[.int .i64 x.f, .int .i64 x.b, .slice x.A x.n x.c] 51) = w2 at *
      generalize wr.heap.size = p2 at *
      obtain ⟨m0, m1, m2⟩ := SBox.cells X2.out
      rcases e1 : decide (x.f ≤ z)
      · rcases e2 : decide (x.b < 0)
        · rcases e3 : decide ((x.n : Int) > 8)
          · have HXB : Hid (0 ≤ x.b) := by show _ ≤ _; have := of_decide_eq_false e2; omega
            have hw1 : IntKind.i64.wrap (x.b - 1) = x.b - 1 := by rw [IntKind.wrap_i64]; have := HXB.out; have := HBB.out x HXM.out; omega
            have HN8 : Hid (x.n ≤ 8) := by show _ ≤ _; have := of_decide_eq_false e3; omega
            have HZ : Hid (z < x.f) := by show _ < _; have := of_decide_eq_false e1; omega
            have HXL := Lib.hid (SaidAt.row HXX.out).len
            go_wp2_with fail
            clear hw1 m0 m1 m2
            have hn8 := HN8.out
            go_loopw [6, 8, 38] (fun s6 _ i wq => ∃ (j : Nat) (y : Int), s6 = .int .i64 y ∧ i = .int .i64 j ∧ j ≤ x.n ∧ Hid (Below w.heap.size w wq) ∧ Hid (risesB x.b ((x.l.map Dx.id).take j) = true) ∧ Hid (Ahead (x.l.map Dx.id) j (x.b - 1) y)) (fun _ _ i _ => x.n - (intOf i).toNat)
            case atStart => exact ⟨0, x.b - 1, rfl, rfl, by omega, L2, Lib.hid rfl, Lib.hid (.inl ⟨rfl, rfl⟩)⟩
            case round =>
              obtain ⟨j, z2, rfl, rfl, hj, L3, R3, A3⟩ := hrel
              by_cases hlt2 : j < x.n
              · obtain ⟨y, hy, -⟩ := SaidAt.get HXX.out hlt2
                obtain ⟨b3, o3, hA3, -, hc3⟩ := SaidAt.cells HXX.out hy
                obtain ⟨d0, d1, d2, d3, d4, d5, d6⟩ := hc3 _ L3.out
                have HY : Hid ((x.l.map Dx.id)[j]? = some y.id) := by show _ = _; rw [List.getElem?_map, hy]; rfl
                have hj0 : (0 : Int) ≤ (j : Int) := by omega
                have hjn : (j : Int) < (x.n : Int) := by omega
                rw [hA3]
                clear hy hc3
                go_upto_region 12 with fail
                have b4 : Below wr.heap.size wr (wr.alloc (.cells #[.int .i64 y.id, .int .i64 y.m.k, .int .i64 y.m.f, .int .i64 y.m.t, .int .i64 y.m.i, .slice y.m.A y.m.n y.m.c, .slice y.m.B y.m.m y.m.d] 56)) := (Below.refl _ wr).alloc (Nat.le_refl _) _
                have L4 := Lib.hid (L3.out.trans (b4.mono L3.out.size))
                have X4 : Hid (DBox (wr.alloc (.cells #[.int .i64 y.id, .int .i64 y.m.k, .int .i64 y.m.f, .int .i64 y.m.t, .int .i64 y.m.i, .slice y.m.A y.m.n y.m.c, .slice y.m.B y.m.m y.m.d] 56)) wr.heap.size y) := Cells.new _ _ _
                clear b4 d0 d1 d2 d3 d4 d5 d6 L3
                generalize wr.alloc (.cells #[.int .i64 y.id, .int .i64 y.m.k, .int .i64 y.m.f, .int .i64 y.m.t, .int .i64 y.m.i, .slice y.m.A y.m.n y.m.c, .slice y.m.B y.m.m y.m.d] 56) = w4 at *
                generalize wr.heap.size = p4 at *
                have q0 := Cells.cell X4.out 0
                rcases e4 : decide (y.id ≤ z2)
                · have HZ2 : Hid (z2 < y.id) := by show _ < _; have := of_decide_eq_false e4; omega
                  go_wp2_with fail
                  go_roundw
                  case rel => exact ⟨j + 1, y.id, rfl, by go_num, by omega, L4, Lib.hid (ahead_next R3.out A3.out HY.out HZ2.out), Lib.hid (ahead_step HY.out)⟩
                  case measure => simp [intOf]; omega
                · have HE : Hid (r = 1) := HF2.out x HXM.out (by
                    have := ahead_not A3.out HY.out (of_decide_eq_true e4)
                    unfold okS Sx.p
                    dsimp only
                    rw [List.map_map, show (Dp.id ∘ Dx.p) = Dx.id from rfl, this, Bool.and_false, Bool.and_false])
                  go_wp2_with fail
                  go_ret
                  exact ⟨by rw [HE.out]; rfl, L4.out⟩
              · have HS : Hid (okS x.p = true) := by
                  show okS _ = _
                  have h1 := R3.out
                  rw [List.take_of_length_le (by rw [List.length_map, HXL.out]; omega)] at h1
                  unfold okS Sx.p
                  dsimp only
                  rw [List.map_map, show (Dp.id ∘ Dx.p) = Dx.id from rfl, h1, List.length_map, HXL.out, decide_eq_true HXB.out, decide_eq_true HN8.out]
                  rfl
                go_wp2_with fail
                go_roundw
                case rel =>
                  refine ⟨k + 1, x.f, rfl, by go_num, by omega, L3, Lib.hid (ahead_next R1.out A1.out HV.out HZ.out), Lib.hid (ahead_step HV.out), Lib.hid (fun i y hi hy => ?_)⟩
                  by_cases h1 : i = k
                  · subst h1
                    have := HX.out.symm.trans hy
                    injection this with this
                    subst this
                    exact HS.out
                  · exact S1.out i y (by omega) hy
                case measure => simp [intOf]; omega
          · have HE : Hid (r = 1) := HF2.out x HXM.out (by
              have h1 := of_decide_eq_true e3
              have h2 := (SaidAt.row HXX.out).len
              unfold okS Sx.p
              dsimp only
              rw [List.length_map, decide_eq_false (show ¬ x.l.length ≤ 8 by omega), Bool.false_and, Bool.and_false])
            go_wp2_with fail
            go_ret
            exact ⟨by rw [HE.out]; rfl, L2.out⟩
        · have HE : Hid (r = 1) := HF2.out x HXM.out (by
            have h1 := of_decide_eq_true e2
            unfold okS Sx.p
            dsimp only
            rw [decide_eq_false (by omega), Bool.false_and])
          go_wp2_with fail
          go_ret
          exact ⟨by rw [HE.out]; rfl, L2.out⟩
      · have HE : Hid (r = 1) := HF1.out (ahead_not A1.out HV.out (of_decide_eq_true e1))
        go_wp2_with fail
        go_ret
        exact ⟨by rw [HE.out]; rfl, L2.out⟩
    · have HE : Hid (r = 0) := by
        refine H0.out ?_ fun s hs => ?_
        · have := R1.out
          rwa [List.take_of_length_le (by rw [List.length_map, HL.out]; omega)] at this
        · obtain ⟨i, hi⟩ := List.mem_iff_getElem?.1 hs
          exact S1.out i s (by have := (List.getElem?_eq_some_iff.1 hi).1; have := HL.out; omega) hi
      go_wp2_with fail
      go_ret
      exact ⟨by rw [HE.out]; rfl, L1.out⟩
end Ded
end Go.Proofs.Ytndcflchdecofaa
