/-
  A WALK: the document's Check.
-/
import Derived.Test.YtehknenlifdchaaLeaIns
namespace Go.Proofs.Ytehknenlifdchaa
open Go.RowKit Mem
namespace Lea

theorem may_not {last now : Int} {x : Lv} : mayB last now x = (!decide (x.key < 0) && (!decide (x.host < 0) && (!decide (8 ≤ x.host) && (!decide (x.epoch < 1) && (!decide (last < x.epoch) && !decide (x.til ≤ now)))))) := by
  rw [Bool.eq_iff_iff, mayB_iff]
  simp only [Bool.and_eq_true, Bool.not_eq_true', decide_eq_false_iff_not]
  omega
/-- What the document's Check has seen of the first k. -/
def seen (last now : Int) (l : List Lv) (k : Nat) : Prop := ∀ i x, i < k → l[i]? = some x → mayB last now x = true ∧ ∀ j y, j < i → l[j]? = some y → y.key < x.key ∧ y.epoch ≠ x.epoch
theorem okT_seen {last now : Int} {l : List Lv} : okT ⟨last, now, l⟩ = true ↔ 0 ≤ last ∧ 0 ≤ now ∧ seen last now l l.length := by
  rw [okT_iff]
  simp only
  constructor
  · rintro ⟨h1, h2, h3, h4, h5⟩
    refine ⟨h1, h2, fun i x hi hx => ⟨h5 x (List.mem_of_getElem? hx), fun j y hj hy => ⟨rises_lt h3 hj hy hx, fun e => ?_⟩⟩⟩
    unfold Differ at h4
    rw [List.nodup_iff_pairwise_ne, List.pairwise_iff_getElem] at h4
    obtain ⟨hi', rfl⟩ := List.getElem?_eq_some_iff.1 hx
    obtain ⟨hj', rfl⟩ := List.getElem?_eq_some_iff.1 hy
    have := h4 j i (by simpa using hj') (by simpa using hi') hj
    simp only [List.getElem_map] at this
    exact this e
  · rintro ⟨h1, h2, h3⟩
    refine ⟨h1, h2, ?_, ?_, fun x hx => ?_⟩
    · unfold Rises
      rw [List.pairwise_iff_getElem]
      intro i j hi hj hij
      exact ((h3 j _ hj (List.getElem?_eq_getElem hj)).2 i _ hij (List.getElem?_eq_getElem hi)).1
    · unfold Differ
      rw [List.nodup_iff_pairwise_ne, List.pairwise_iff_getElem]
      intro i j hi hj hij
      simp only [List.length_map] at hi hj
      simp only [List.getElem_map]
      exact ((h3 j _ hj (List.getElem?_eq_getElem hj)).2 i _ hij (List.getElem?_eq_getElem hi)).2
    · obtain ⟨i, hi⟩ := List.mem_iff_getElem?.1 hx
      exact (h3 i x (List.getElem?_eq_some_iff.1 hi).1 hi).1
theorem ok_false {last now : Int} {l : List Lv} (h : ¬ (0 ≤ last ∧ 0 ≤ now ∧ seen last now l l.length)) : okT ⟨last, now, l⟩ = false := by
  rcases e : okT ⟨last, now, l⟩
  · rfl
  · exact absurd (okT_seen.1 e) h

set_option maxRecDepth 100000 in
set_option maxHeartbeats 6400000 in
theorem refCheck_any {last now : Int} {A : Option Addr} {n c : Nat} {l : List Lv} {w : World} (h : RowL w A n c l) (hn : n ≤ 1000000) :
    Calls Try.prog 17 #[tv last now A n c] w fun e w' => e = .returned (.int .i64 (errOf (okT ⟨last, now, l⟩))) ∧ Below w.heap.size w w' := by
  have HR := Lib.hid h
  have hbig := h.big
  have hcap := h.cap
  have hlen := Lib.hid h.len
  have L1 : Hid (Below w.heap.size w (w.alloc (.cells #[.int .i64 last, .int .i64 now, .slice A n c] 24))) := (Below.refl w.heap.size w).alloc (Nat.le_refl _) _
  have B1 : Hid (TBox (w.alloc (.cells #[.int .i64 last, .int .i64 now, .slice A n c] 24)) w.heap.size last now A n c) := Cells.new w _ _
  have HN := Lib.hid (fun hh => ok_false (last := last) (now := now) (l := l) hh)
  have HY := Lib.hid (okT_seen (last := last) (now := now) (l := l)).2
  clear h
  generalize okT ⟨last, now, l⟩ = ok at *
  rcases e1 : decide (last < 0)
  · rcases e2 : decide (now < 0)
    · have E1 := Lib.hid (of_decide_eq_false e1)
      have E2 := Lib.hid (of_decide_eq_false e2)
      go_enter Try.func17, Try.ntmps17
      go_upto_region 1 with fail
      generalize w.alloc (.cells #[.int .i64 last, .int .i64 now, .slice A n c] 24) = w1 at *
      obtain ⟨m0, m1, m2⟩ := TBox.cells B1.out
      go_wp2_with fail
      clear m0 m1 m2 e1 e2
      go_loopw [3, 4, 18] (fun _ _ i wr => ∃ k : Nat, i = .int .i64 k ∧ k ≤ n ∧ Hid (Below w1.heap.size w1 wr ∧ seen last now l k)) (fun _ _ i _ => n - (intOf i).toNat)
      case atStart => exact ⟨0, rfl, by omega, Below.refl _ _, fun i x hi => by omega⟩
      case round =>
        obtain ⟨k, rfl, hk, hH⟩ := hrel
        by_cases hlt : k < n
        · obtain ⟨x, hx⟩ := HR.out.get hlt
          obtain ⟨b, o, hA, hb, hcells⟩ := RowS.lease HR.out hx
          subst hA
          have HCE := Lib.hid hcells
          have HBB := Lib.hid hb
          have HX := Lib.hid hx
          have hk0 : (0 : Int) ≤ (k : Int) := by omega
          have hkn : (k : Int) < (n : Int) := by omega
          have LW := Lib.hid (L1.out.trans (hH.out.1.mono L1.out.size))
          obtain ⟨c0, c1, c2, c3⟩ := hcells wr (LW.out.block b hb)
          clear hcells hb hx
          have A1 : Hid (Below w1.heap.size w1 (wr.alloc (.cells #[.int .i64 x.key, .int .i64 x.host, .int .i64 x.epoch, .int .i64 x.til] 43))) := hH.out.1.alloc hH.out.1.size _
          have X1 : Hid (LBox (wr.alloc (.cells #[.int .i64 x.key, .int .i64 x.host, .int .i64 x.epoch, .int .i64 x.til] 43)) wr.heap.size x) := Cells.new _ _ _
          go_upto_region 6 with fail
          clear c0 c1 c2 c3
          have L2 := Lib.hid (L1.out.trans (A1.out.mono L1.out.size))
          have B2 := Lib.hid (Cells.below B1.out A1.out)
          generalize wr.alloc (.cells #[.int .i64 x.key, .int .i64 x.host, .int .i64 x.epoch, .int .i64 x.til] 43) = w2 at *
          obtain ⟨m0, m1, m2⟩ := TBox.cells B2.out
          obtain ⟨n0, n1, n2, n3⟩ := LBox.cells X1.out
          have BAD : Hid (mayB last now x = false → ok = false) := by
            show _ → _
            intro hf
            exact HN.out (fun h => by have := (h.2.2 k x (by have := hlen.out; omega) HX.out).1; rw [hf] at this; cases this)
          have HMN := Lib.hid (may_not (last := last) (now := now) (x := x))
          rcases f1 : decide (x.key < 0)
          · skip
            rcases f2 : decide (x.host < 0)
            · skip
              rcases f3 : decide (8 ≤ x.host)
              · skip
                rcases f4 : decide (x.epoch < 1)
                · skip
                  rcases f5 : decide (last < x.epoch)
                  · skip
                    rcases f6 : decide (x.til ≤ now)
                    · skip
                      have HMY : Hid (mayB last now x = true) := by show _ = _; rw [HMN.out, f1, f2, f3, f4, f5, f6]; rfl
                      have hsl : ∀ w, (Instr.slice 22 (.slice (some ⟨b, o, none⟩) n c) none (some (.int .i64 (k : Int))) none).run Try.prog w = .ok (.slice (some ⟨b, o, none⟩) k c) w := fun w => run_headL _ n c k (by omega) w
                      go_upto_region 8 with fail
                      clear f1 f2 f3 f4 f5 f6
                      go_wp2_with fail
                      clear m0 m1 m2 n0 n1 n2 n3 hsl
                      go_loopw [6, 60] (fun _ i wq => ∃ q : Nat, i = .int .i64 q ∧ q ≤ k ∧ Hid (Below w2.heap.size w2 wq ∧ ∀ j y, j < q → l[j]? = some y → y.key < x.key ∧ y.epoch ≠ x.epoch)) (fun _ i _ => k - (intOf i).toNat)
                      case atStart => exact ⟨0, rfl, by omega, Below.refl _ _, fun j y hj => by omega⟩
                      case round =>
                        obtain ⟨q, rfl, hq, hQ⟩ := hrel
                        by_cases hqk : q < k
                        · obtain ⟨y, hy⟩ := HR.out.get (show q < n by omega)
                          obtain ⟨b', o', hA, hb', hcy⟩ := RowS.lease HR.out hy
                          injection hA with hA
                          injection hA with g1 g2
                          subst g1 g2
                          have hq0 : (0 : Int) ≤ (q : Int) := by omega
                          have hqn : (q : Int) < (k : Int) := by omega
                          have HYY := Lib.hid hy
                          obtain ⟨d0, d1, d2, d3⟩ := hcy wr ((L2.out.trans (hQ.out.1.mono L2.out.size)).block b HBB.out)
                          clear hy hcy hb'
                          have A3 : Hid (Below w2.heap.size w2 (wr.alloc (.cells #[.int .i64 y.key, .int .i64 y.host, .int .i64 y.epoch, .int .i64 y.til] 43))) := hQ.out.1.alloc hQ.out.1.size _
                          have Y3 : Hid (LBox (wr.alloc (.cells #[.int .i64 y.key, .int .i64 y.host, .int .i64 y.epoch, .int .i64 y.til] 43)) wr.heap.size y) := Cells.new _ _ _
                          go_upto_region 11 with fail
                          clear d0 d1 d2 d3
                          have X3 := Lib.hid (Cells.below X1.out A3.out)
                          have BAD2 : Hid (¬ (y.key < x.key ∧ y.epoch ≠ x.epoch) → ok = false) := by
                            show _ → _
                            intro hf
                            exact HN.out (fun h => hf ((h.2.2 k x (by have := hlen.out; omega) HX.out).2 q y hqk HYY.out))
                          generalize wr.alloc (.cells #[.int .i64 y.key, .int .i64 y.host, .int .i64 y.epoch, .int .i64 y.til] 43) = w3 at *
                          obtain ⟨n0, n1, n2, n3⟩ := LBox.cells X3.out
                          obtain ⟨p0, p1, p2, p3⟩ := LBox.cells Y3.out
                          rcases g1 : decide (x.key ≤ y.key)
                          · rcases g2 : (y.epoch == x.epoch)
                            · go_wp2_with fail
                              go_roundw
                              case rel =>
                                refine ⟨q + 1, by go_num, by omega, A3.out, fun j z hj hz => ?_⟩
                                by_cases h1 : j = q
                                · subst h1
                                  have := HYY.out.symm.trans hz
                                  injection this with this; subst this
                                  exact ⟨by have := of_decide_eq_false g1; omega, by simpa using g2⟩
                                · exact hQ.out.2 j z (by omega) hz
                              case measure => simp [intOf]; omega
                            · go_wp2_with fail
                              go_ret
                              exact ⟨by rw [BAD2.out (fun h => h.2 (by simpa using g2))]; rfl, L2.out.trans (A3.out.mono L2.out.size)⟩
                          · go_wp2_with fail
                            go_ret
                            exact ⟨by rw [BAD2.out (fun h => by have := of_decide_eq_true g1; omega)]; rfl, L2.out.trans (A3.out.mono L2.out.size)⟩
                        · have hqk2 : q = k := by omega
                          subst hqk2
                          go_wp2_with fail
                          go_roundw
                          case rel =>
                            refine ⟨q + 1, by go_num, by omega, A1.out.trans (hQ.out.1.mono A1.out.size), fun i z hi hz => ?_⟩
                            by_cases h1 : i = q
                            · subst h1
                              have := HX.out.symm.trans hz
                              injection this with this; subst this
                              exact ⟨HMY.out, hQ.out.2⟩
                            · exact hH.out.2 i z (by omega) hz
                          case measure => simp [intOf]; omega
                    · go_wp2_with fail
                      go_ret
                      exact ⟨by rw [BAD.out (by rw [HMN.out, f1, f2, f3, f4, f5, f6]; simp)]; rfl, L2.out⟩
                  · go_wp2_with fail
                    go_ret
                    exact ⟨by rw [BAD.out (by rw [HMN.out, f1, f2, f3, f4, f5]; simp)]; rfl, L2.out⟩
                · go_wp2_with fail
                  go_ret
                  exact ⟨by rw [BAD.out (by rw [HMN.out, f1, f2, f3, f4]; simp)]; rfl, L2.out⟩
              · go_wp2_with fail
                go_ret
                exact ⟨by rw [BAD.out (by rw [HMN.out, f1, f2, f3]; simp)]; rfl, L2.out⟩
            · go_wp2_with fail
              go_ret
              exact ⟨by rw [BAD.out (by rw [HMN.out, f1, f2]; simp)]; rfl, L2.out⟩
          · go_wp2_with fail
            go_ret
            exact ⟨by rw [BAD.out (by rw [HMN.out, f1]; simp)]; rfl, L2.out⟩
        · have hkn : k = n := by omega
          subst hkn
          have HOK := Lib.hid (HY.out ⟨by have := E1.out; omega, by have := E2.out; omega, by rw [hlen.out]; exact hH.out.2⟩)
          go_wp2_with fail
          go_ret
          exact ⟨by rw [HOK.out]; rfl, L1.out.trans (hH.out.1.mono L1.out.size)⟩
    · go_enter Try.func17, Try.ntmps17
      go_upto_region 1 with fail
      generalize w.alloc (.cells #[.int .i64 last, .int .i64 now, .slice A n c] 24) = w1 at *
      obtain ⟨m0, m1, m2⟩ := TBox.cells B1.out
      go_wp2_with fail
      go_ret
      exact ⟨by rw [HN.out (fun h => by have := of_decide_eq_true e2; omega)]; rfl, L1.out⟩
  · go_enter Try.func17, Try.ntmps17
    go_upto_region 1 with fail
    generalize w.alloc (.cells #[.int .i64 last, .int .i64 now, .slice A n c] 24) = w1 at *
    obtain ⟨m0, m1, m2⟩ := TBox.cells B1.out
    go_wp2_with fail
    go_ret
    exact ⟨by rw [HN.out (fun h => by have := of_decide_eq_true e1; omega)]; rfl, L1.out⟩
end Lea
end Go.Proofs.Ytehknenlifdchaa
