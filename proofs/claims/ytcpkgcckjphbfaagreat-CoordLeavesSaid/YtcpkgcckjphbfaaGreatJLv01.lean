/-
  SEVERAL TEXTS IN ONE FILE: CooLeaP, LeaRefChk, LeaRefA.
-/
import Derived.Test.YtcpkgcckjphbfaaGreatJ07
import Derived.Test.YtcpkgcckjphbfaaGreatJ12
import Derived.Test.YtcpkgcckjphbfaaGreatJ27
import Derived.Laws.StructEq
/-
  PLAIN FACTS of who leaves. (No program is named here.)
-/
namespace Go.Proofs.YtcpkgcckjphbfaaGreat
namespace Coo
open Lea (Lv Tv)
open Spa (Sp)
def leaveE (h ep : Int) : Ev := ⟨8, h, 0, ep, 0, 0, 0, 2000 + h⟩
def zoneE (h : Int) : Ev := ⟨2, h, 0, 0, 0, 0, 0, 0⟩
def goneC (c : Cv) (h : Int) : Cv := endC (setT c ⟨c.t.last, c.t.now, Lea.butK c.t.l (2000 + h)⟩) (2000 + h)
theorem get_mem {l : List Lv} {key : Int} (hh : Lea.heldB l key = true) : Lea.getL l key ∈ l ∧ (Lea.getL l key).key = key := by
  rw [Lea.find_held] at hh
  obtain ⟨x, hx⟩ := Option.isSome_iff_exists.1 hh
  have h1 := Lea.find_some hx
  unfold Lea.getL
  rw [hx]
  exact h1
theorem host_of {c : Cv} (hi : Inv c) {h : Int} (hh : 0 ≤ h ∧ h < 8) {x : Lv} (hx : x ∈ c.t.l) (hk : x.key = 2000 + h) : x.host = h := by
  have h1 := hi.keys x hx
  have h2 := hi.z2
  rcases h1 with h1 | h1 | h1 <;> omega
theorem leave_do {c : Cv} (hi : Inv c) {h : Int} (hh : 0 ≤ h ∧ h < 8) (hm : Lea.heldB c.t.l (2000 + h) = true) :
    doC c (leaveE h (Lea.getL c.t.l (2000 + h)).epoch) = (goneC c h, ⟨0, 0, []⟩) := by
  have h1 := get_mem hm
  have h2 := host_of hi hh h1.1 h1.2
  have h3 : hasNot c (leaveE h (Lea.getL c.t.l (2000 + h)).epoch) = false := by
    show ((Lea.getL c.t.l (2000 + h)).host != h || (Lea.getL c.t.l (2000 + h)).epoch != (Lea.getL c.t.l (2000 + h)).epoch) = false
    rw [h2]; simp
  have h4 : mayE (leaveE h (Lea.getL c.t.l (2000 + h)).epoch) = true := mayE_iff.2 ⟨rfl, .inr (hostB_iff.2 hh)⟩
  unfold doC
  rw [h4]
  show leaveC c (leaveE h (Lea.getL c.t.l (2000 + h)).epoch) = _
  unfold leaveC
  rw [h3]
  show (bif Lea.heldB c.t.l (2000 + h) then _ else _) = _
  rw [hm]
  rfl
theorem gone_t (c : Cv) (h : Int) : (goneC c h).t = ⟨c.t.last, c.t.now, Lea.butK c.t.l (2000 + h)⟩ ∧ (goneC c h).zones = c.zones := ⟨(endC_t _ _).1, (endC_t _ _).2.2⟩
theorem gone_mem (c : Cv) (h : Int) : memB (goneC c h) h = false := by
  unfold memB memL
  rw [(gone_t c h).1]
  show (hostB h && Lea.heldB (Lea.butK c.t.l (2000 + h)) (2000 + h)) = false
  rw [Lea.find_but, Bool.and_false]
theorem gone_s {c : Cv} (hi : Inv c) {h : Int} (hh : 0 ≤ h ∧ h < 8) : ∀ s ∈ (goneC c h).s, s.own ≠ h := by
  intro s hs
  obtain ⟨h1, h2, h3⟩ := endC_s (c := setT c ⟨c.t.last, c.t.now, Lea.butK c.t.l (2000 + h)⟩) hi.sok (2000 + h)
  have hc := Spa.ok_ch h1
  have hb := hc.mem hs
  rcases h3 _ _ _ (Spa.who_mem hc hs ⟨Int.le_refl _, hb.2.1⟩) with h4 | ⟨-, h4⟩
  · omega
  · have := h4 (hostB_iff.2 (by omega)); omega
theorem gone_w {c : Cv} {h : Int} (hh : 0 ≤ h ∧ h < 8) : ∀ f ∈ (goneC c h).wt, f.host ≠ h := by
  intro f hf
  have := (endC_w (setT c ⟨c.t.last, c.t.now, Lea.butK c.t.l (2000 + h)⟩) (2000 + h)).2 f hf (hostB_iff.2 (by omega))
  omega
theorem gone_owner {c : Cv} (hi : Inv c) (h z : Int) (hh : 0 ≤ h ∧ h < 8) : ownerC (goneC c h) z = ownerC c z := by
  unfold ownerC
  have hz : zoneB (goneC c h) z = zoneB c z := by unfold zoneB; rw [(gone_t c h).2]
  rw [hz]
  rcases e : zoneB c z
  · rfl
  · have h1 := zoneB_iff.1 e
    have h2 := hi.z2
    show ownL (goneC c h).t.l z = ownL c.t.l z
    rw [(gone_t c h).1]
    show ownL (Lea.butK c.t.l (2000 + h)) z = ownL c.t.l z
    unfold ownL
    rw [Lea.find_held, Lea.find_held]
    unfold Lea.getL
    rw [Lea.find_but_other (by omega)]
theorem gone_ask {c : Cv} (hi : Inv c) {h : Int} (hh : 0 ≤ h ∧ h < 8) : (doC (goneC c h) (zoneE h)).2.e = 4 := by
  have h4 : mayE (zoneE h) = true := mayE_iff.2 ⟨rfl, .inr (hostB_iff.2 hh)⟩
  unfold doC
  rw [h4]
  show (askC (goneC c h) (zoneE h)).2.e = 4
  unfold askC
  have hz : zoneB (goneC c h) (zoneE h).zone = true := zoneB_iff.2 ⟨Int.le_refl _, by rw [(gone_t c h).2]; have := hi.z1; show (0 : Int) < _; omega⟩
  rw [hz]
  show (bif memB (goneC c h) h then _ else _ : Cv × An).2.e = 4
  rw [gone_mem]
  rfl
theorem hold_ok {c : Cv} (hi : Inv c) (key : Int) : Lea.holdP c.t key = (bif Lea.heldB c.t.l key then (Lea.getL c.t.l key, true) else (Lea.zL, false)) := by
  unfold Lea.holdP
  rw [hi.tok, Bool.true_and]
end Coo
end Go.Proofs.YtcpkgcckjphbfaaGreat
/-
  A WALK: the document's Check.
-/
namespace Go.Proofs.YtcpkgcckjphbfaaGreat
open Go.RowKit Mem
namespace Lea

theorem may_not {last now : Int} {x : Lv} : mayB last now x = (!decide (x.key < 0) && (!decide (x.host < 0) && (!decide (8 ≤ x.host) && (!decide (x.epoch < 1) && (!decide (last < x.epoch) && !decide (x.til ≤ now)))))) := by
  rw [Bool.eq_iff_iff, mayB_iff]
  simp only [Bool.and_eq_true, Bool.not_eq_true', decide_eq_false_iff_not]
  omega
/-- What the document's Check has seen of the first k. -/
def seen (last now : Int) (l : List Lv) (k : Nat) : Prop := ∀ i x, i < k → l[i]? = some x → mayB last now x = true ∧ ∀ j y, j < i → l[j]? = some y → y.key < x.key ∧ y.epoch ≠ x.epoch
theorem okT_seen {last now : Int} {l : List Lv} : okT ⟨last, now, l⟩ = true ↔ 0 ≤ last ∧ 0 ≤ now ∧ seen last now l l.length := by
  rw [okT_iff]
  simp only
  constructor
  · rintro ⟨h1, h2, h3, h4, h5⟩
    refine ⟨h1, h2, fun i x hi hx => ⟨h5 x (List.mem_of_getElem? hx), fun j y hj hy => ⟨rises_lt h3 hj hy hx, fun e => ?_⟩⟩⟩
    unfold Differ at h4
    rw [List.nodup_iff_pairwise_ne, List.pairwise_iff_getElem] at h4
    obtain ⟨hi', rfl⟩ := List.getElem?_eq_some_iff.1 hx
    obtain ⟨hj', rfl⟩ := List.getElem?_eq_some_iff.1 hy
    have := h4 j i (by simpa using hj') (by simpa using hi') hj
    simp only [List.getElem_map] at this
    exact this e
  · rintro ⟨h1, h2, h3⟩
    refine ⟨h1, h2, ?_, ?_, fun x hx => ?_⟩
    · unfold Rises
      rw [List.pairwise_iff_getElem]
      intro i j hi hj hij
      exact ((h3 j _ hj (List.getElem?_eq_getElem hj)).2 i _ hij (List.getElem?_eq_getElem hi)).1
    · unfold Differ
      rw [List.nodup_iff_pairwise_ne, List.pairwise_iff_getElem]
      intro i j hi hj hij
      simp only [List.length_map] at hi hj
      simp only [List.getElem_map]
      exact ((h3 j _ hj (List.getElem?_eq_getElem hj)).2 i _ hij (List.getElem?_eq_getElem hi)).2
    · obtain ⟨i, hi⟩ := List.mem_iff_getElem?.1 hx
      exact (h3 i x (List.getElem?_eq_some_iff.1 hi).1 hi).1
theorem ok_false {last now : Int} {l : List Lv} (h : ¬ (0 ≤ last ∧ 0 ≤ now ∧ seen last now l l.length)) : okT ⟨last, now, l⟩ = false := by
  rcases e : okT ⟨last, now, l⟩
  · rfl
  · exact absurd (okT_seen.1 e) h

set_option maxRecDepth 100000 in
set_option maxHeartbeats 6400000 in
theorem refCheck_any {last now : Int} {A : Option Addr} {n c : Nat} {l : List Lv} {w : World} (h : RowL w A n c l) (hn : n ≤ 1000000) :
    Calls Tryz.prog 12 #[tv last now A n c] w fun e w' => e = .returned (.int .i64 (errOf (okT ⟨last, now, l⟩))) ∧ Below w.heap.size w w' := by
  have HR := Lib.hid h
  have hbig := h.big
  have hcap := h.cap
  have hlen := Lib.hid h.len
  have L1 : Hid (Below w.heap.size w (w.alloc (.cells #[.int .i64 last, .int .i64 now, .slice A n c] 27))) := (Below.refl w.heap.size w).alloc (Nat.le_refl _) _
  have B1 : Hid (TBox (w.alloc (.cells #[.int .i64 last, .int .i64 now, .slice A n c] 27)) w.heap.size last now A n c) := Cells.new w _ _
  have HN := Lib.hid (fun hh => ok_false (last := last) (now := now) (l := l) hh)
  have HY := Lib.hid (okT_seen (last := last) (now := now) (l := l)).2
  clear h
  generalize okT ⟨last, now, l⟩ = ok at *
  rcases e1 : decide (last < 0)
  · rcases e2 : decide (now < 0)
    · have E1 := Lib.hid (of_decide_eq_false e1)
      have E2 := Lib.hid (of_decide_eq_false e2)
      go_enter Tryz.func12, Tryz.ntmps12
      go_upto_region 1 with fail
      generalize w.alloc (.cells #[.int .i64 last, .int .i64 now, .slice A n c] 27) = w1 at *
      obtain ⟨m0, m1, m2⟩ := TBox.cells B1.out
      go_wp2_with fail
      clear m0 m1 m2 e1 e2
      go_loopw [3, 4, 18] (fun _ _ i wr => ∃ k : Nat, i = .int .i64 k ∧ k ≤ n ∧ Hid (Below w1.heap.size w1 wr ∧ seen last now l k)) (fun _ _ i _ => n - (intOf i).toNat)
      case atStart => exact ⟨0, rfl, by omega, Below.refl _ _, fun i x hi => by omega⟩
      case round =>
        obtain ⟨k, rfl, hk, hH⟩ := hrel
        by_cases hlt : k < n
        · obtain ⟨x, hx⟩ := HR.out.get hlt
          obtain ⟨b, o, hA, hb, hcells⟩ := RowS.lease HR.out hx
          subst hA
          have HCE := Lib.hid hcells
          have HBB := Lib.hid hb
          have HX := Lib.hid hx
          have hk0 : (0 : Int) ≤ (k : Int) := by omega
          have hkn : (k : Int) < (n : Int) := by omega
          have LW := Lib.hid (L1.out.trans (hH.out.1.mono L1.out.size))
          obtain ⟨c0, c1, c2, c3⟩ := hcells wr (LW.out.block b hb)
          clear hcells hb hx
          have A1 : Hid (Below w1.heap.size w1 (wr.alloc (.cells #[.int .i64 x.key, .int .i64 x.host, .int .i64 x.epoch, .int .i64 x.til] 65))) := hH.out.1.alloc hH.out.1.size _
          have X1 : Hid (LBox (wr.alloc (.cells #[.int .i64 x.key, .int .i64 x.host, .int .i64 x.epoch, .int .i64 x.til] 65)) wr.heap.size x) := Cells.new _ _ _
          go_upto_region 6 with fail
          clear c0 c1 c2 c3
          have L2 := Lib.hid (L1.out.trans (A1.out.mono L1.out.size))
          have B2 := Lib.hid (Cells.below B1.out A1.out)
          generalize wr.alloc (.cells #[.int .i64 x.key, .int .i64 x.host, .int .i64 x.epoch, .int .i64 x.til] 65) = w2 at *
          obtain ⟨m0, m1, m2⟩ := TBox.cells B2.out
          obtain ⟨n0, n1, n2, n3⟩ := LBox.cells X1.out
          have BAD : Hid (mayB last now x = false → ok = false) := by
            show _ → _
            intro hf
            exact HN.out (fun h => by have := (h.2.2 k x (by have := hlen.out; omega) HX.out).1; rw [hf] at this; cases this)
          have HMN := Lib.hid (may_not (last := last) (now := now) (x := x))
          rcases f1 : decide (x.key < 0)
          · skip
            rcases f2 : decide (x.host < 0)
            · skip
              rcases f3 : decide (8 ≤ x.host)
              · skip
                rcases f4 : decide (x.epoch < 1)
                · skip
                  rcases f5 : decide (last < x.epoch)
                  · skip
                    rcases f6 : decide (x.til ≤ now)
                    · skip
                      have HMY : Hid (mayB last now x = true) := by show _ = _; rw [HMN.out, f1, f2, f3, f4, f5, f6]; rfl
                      have hsl : ∀ w, (Instr.slice 25 (.slice (some ⟨b, o, none⟩) n c) none (some (.int .i64 (k : Int))) none).run Tryz.prog w = .ok (.slice (some ⟨b, o, none⟩) k c) w := fun w => run_headL _ n c k (by omega) w
                      go_upto_region 8 with fail
                      clear f1 f2 f3 f4 f5 f6
                      go_wp2_with fail
                      clear m0 m1 m2 n0 n1 n2 n3 hsl
                      go_loopw [6, 60] (fun _ i wq => ∃ q : Nat, i = .int .i64 q ∧ q ≤ k ∧ Hid (Below w2.heap.size w2 wq ∧ ∀ j y, j < q → l[j]? = some y → y.key < x.key ∧ y.epoch ≠ x.epoch)) (fun _ i _ => k - (intOf i).toNat)
                      case atStart => exact ⟨0, rfl, by omega, Below.refl _ _, fun j y hj => by omega⟩
                      case round =>
                        obtain ⟨q, rfl, hq, hQ⟩ := hrel
                        by_cases hqk : q < k
                        · obtain ⟨y, hy⟩ := HR.out.get (show q < n by omega)
                          obtain ⟨b', o', hA, hb', hcy⟩ := RowS.lease HR.out hy
                          injection hA with hA
                          injection hA with g1 g2
                          subst g1 g2
                          have hq0 : (0 : Int) ≤ (q : Int) := by omega
                          have hqn : (q : Int) < (k : Int) := by omega
                          have HYY := Lib.hid hy
                          obtain ⟨d0, d1, d2, d3⟩ := hcy wr ((L2.out.trans (hQ.out.1.mono L2.out.size)).block b HBB.out)
                          clear hy hcy hb'
                          have A3 : Hid (Below w2.heap.size w2 (wr.alloc (.cells #[.int .i64 y.key, .int .i64 y.host, .int .i64 y.epoch, .int .i64 y.til] 65))) := hQ.out.1.alloc hQ.out.1.size _
                          have Y3 : Hid (LBox (wr.alloc (.cells #[.int .i64 y.key, .int .i64 y.host, .int .i64 y.epoch, .int .i64 y.til] 65)) wr.heap.size y) := Cells.new _ _ _
                          go_upto_region 11 with fail
                          clear d0 d1 d2 d3
                          have X3 := Lib.hid (Cells.below X1.out A3.out)
                          have BAD2 : Hid (¬ (y.key < x.key ∧ y.epoch ≠ x.epoch) → ok = false) := by
                            show _ → _
                            intro hf
                            exact HN.out (fun h => hf ((h.2.2 k x (by have := hlen.out; omega) HX.out).2 q y hqk HYY.out))
                          generalize wr.alloc (.cells #[.int .i64 y.key, .int .i64 y.host, .int .i64 y.epoch, .int .i64 y.til] 65) = w3 at *
                          obtain ⟨n0, n1, n2, n3⟩ := LBox.cells X3.out
                          obtain ⟨p0, p1, p2, p3⟩ := LBox.cells Y3.out
                          rcases g1 : decide (x.key ≤ y.key)
                          · rcases g2 : (y.epoch == x.epoch)
                            · go_wp2_with fail
                              go_roundw
                              case rel =>
                                refine ⟨q + 1, by go_num, by omega, A3.out, fun j z hj hz => ?_⟩
                                by_cases h1 : j = q
                                · subst h1
                                  have := HYY.out.symm.trans hz
                                  injection this with this; subst this
                                  exact ⟨by have := of_decide_eq_false g1; omega, by simpa using g2⟩
                                · exact hQ.out.2 j z (by omega) hz
                              case measure => simp [intOf]; omega
                            · go_wp2_with fail
                              go_ret
                              exact ⟨by rw [BAD2.out (fun h => h.2 (by simpa using g2))]; rfl, L2.out.trans (A3.out.mono L2.out.size)⟩
                          · go_wp2_with fail
                            go_ret
                            exact ⟨by rw [BAD2.out (fun h => by have := of_decide_eq_true g1; omega)]; rfl, L2.out.trans (A3.out.mono L2.out.size)⟩
                        · have hqk2 : q = k := by omega
                          subst hqk2
                          go_wp2_with fail
                          go_roundw
                          case rel =>
                            refine ⟨q + 1, by go_num, by omega, A1.out.trans (hQ.out.1.mono A1.out.size), fun i z hi hz => ?_⟩
                            by_cases h1 : i = q
                            · subst h1
                              have := HX.out.symm.trans hz
                              injection this with this; subst this
                              exact ⟨HMY.out, hQ.out.2⟩
                            · exact hH.out.2 i z (by omega) hz
                          case measure => simp [intOf]; omega
                    · go_wp2_with fail
                      go_ret
                      exact ⟨by rw [BAD.out (by rw [HMN.out, f1, f2, f3, f4, f5, f6]; simp)]; rfl, L2.out⟩
                  · go_wp2_with fail
                    go_ret
                    exact ⟨by rw [BAD.out (by rw [HMN.out, f1, f2, f3, f4, f5]; simp)]; rfl, L2.out⟩
                · go_wp2_with fail
                  go_ret
                  exact ⟨by rw [BAD.out (by rw [HMN.out, f1, f2, f3, f4]; simp)]; rfl, L2.out⟩
              · go_wp2_with fail
                go_ret
                exact ⟨by rw [BAD.out (by rw [HMN.out, f1, f2, f3]; simp)]; rfl, L2.out⟩
            · go_wp2_with fail
              go_ret
              exact ⟨by rw [BAD.out (by rw [HMN.out, f1, f2]; simp)]; rfl, L2.out⟩
          · go_wp2_with fail
            go_ret
            exact ⟨by rw [BAD.out (by rw [HMN.out, f1]; simp)]; rfl, L2.out⟩
        · have hkn : k = n := by omega
          subst hkn
          have HOK := Lib.hid (HY.out ⟨by have := E1.out; omega, by have := E2.out; omega, by rw [hlen.out]; exact hH.out.2⟩)
          go_wp2_with fail
          go_ret
          exact ⟨by rw [HOK.out]; rfl, L1.out.trans (hH.out.1.mono L1.out.size)⟩
    · go_enter Tryz.func12, Tryz.ntmps12
      go_upto_region 1 with fail
      generalize w.alloc (.cells #[.int .i64 last, .int .i64 now, .slice A n c] 27) = w1 at *
      obtain ⟨m0, m1, m2⟩ := TBox.cells B1.out
      go_wp2_with fail
      go_ret
      exact ⟨by rw [HN.out (fun h => by have := of_decide_eq_true e2; omega)]; rfl, L1.out⟩
  · go_enter Tryz.func12, Tryz.ntmps12
    go_upto_region 1 with fail
    generalize w.alloc (.cells #[.int .i64 last, .int .i64 now, .slice A n c] 27) = w1 at *
    obtain ⟨m0, m1, m2⟩ := TBox.cells B1.out
    go_wp2_with fail
    go_ret
    exact ⟨by rw [HN.out (fun h => by have := of_decide_eq_true e1; omega)]; rfl, L1.out⟩
end Lea
end Go.Proofs.YtcpkgcckjphbfaaGreat
/-
  WALKS: what the document's own functions tell of a table: Holder, Of, Next; which leases, ints and tables are the same; copies; few. (Written by gen_leareft.py.)
-/
namespace Go.Proofs.YtcpkgcckjphbfaaGreat
open Go.RowKit Mem
namespace Lea

theorem lease_guard : Tryz.prog.eqGuardType Tryz.prog.depth 65 = false := by kernel_rfl
theorem lease_equal (x : Lv) (w : World) : (Op.equalIn 10000 65 (lv x) (lv x)).run Tryz.prog w = .ok true w := by
  have u3 := Tryz.underlying3
  have a3 := Tryz.isAgg3
  have z3 := Tryz.sizeOf3
  have hS : Tryz.prog.underlying 65 = some (.struct (Tryz.prog.fieldsOf 65)) := by kernel_rfl
  have hp : Tryz.prog.stoodInHeld 65 = false := by kernel_rfl
  rw [show (10000 : Nat) = 9999 + 1 from rfl, run_equalIn_agg w 9999 65 _ _ hS hp]
  simp only [Program.fieldsOf, Tryz.underlying65]
  go_simp
  try simp
theorem lease_eql (x : Lv) (w : World) : (binOp .eql 65 (lv x) (lv x)).run Tryz.prog w = .ok (.bool true) w := by
  rw [run_eql_struct, lease_equal]; rfl
theorem lease_neq (x : Lv) (w : World) : (binOp .neq 65 (lv x) (lv x)).run Tryz.prog w = .ok (.bool false) w := by
  rw [run_neq_struct, lease_equal]; rfl

theorem find_first {l : List Lv} {key : Int} {k : Nat} {x : Lv} (h : ∀ j y, j < k → l[j]? = some y → y.key ≠ key) (hx : l[k]? = some x) (hk : x.key = key) : findL l key = some x := by
  induction l generalizing k with
  | nil => simp at hx
  | cons a l ih =>
    unfold findL
    rcases k with _ | k
    · simp at hx; subst hx
      rw [List.find?_cons_of_pos (by simpa using hk)]
    · rw [List.find?_cons_of_neg (by simpa using h 0 a (by omega) rfl)]
      exact ih (k := k) (fun j y hj hy => h (j + 1) y (by omega) (by simpa using hy)) (by simpa using hx)
theorem held_none {l : List Lv} {key : Int} {n : Nat} (hl : l.length = n) (h : ∀ j y, j < n → l[j]? = some y → y.key ≠ key) : heldB l key = false := by
  rw [held_false]
  intro x hx
  obtain ⟨i, hi⟩ := List.mem_iff_getElem?.1 hx
  exact h i x (by have := (List.getElem?_eq_some_iff.1 hi).1; omega) hi

set_option maxRecDepth 100000 in
set_option maxHeartbeats 6400000 in
theorem refHolder_any {last now : Int} {A : Option Addr} {n c : Nat} {l : List Lv} {w : World} (key : Int) (h : RowL w A n c l) (hn : n ≤ 1000000) :
    Calls Tryz.prog 19 #[tv last now A n c, .int .i64 key] w fun e w' => e = .returned (.tuple #[lv (holdP ⟨last, now, l⟩ key).1, .bool (holdP ⟨last, now, l⟩ key).2]) ∧ Below w.heap.size w w' := by
  have HR := Lib.hid h
  have hbig := h.big
  have hlen := Lib.hid h.len
  have HC := fun w (h : RowL w A n c l) => Lib.hid (refCheck_any (last := last) (now := now) h hn)
  unfold errOf at HC
  have L1 : Hid (Below w.heap.size w ((w.alloc (.cells #[.int .i64 last, .int .i64 now, .slice A n c] 27)).alloc (.cells #[.int .i64 0, .int .i64 0, .int .i64 0, .int .i64 0] 65))) := ((Below.refl w.heap.size w).alloc (Nat.le_refl _) _).alloc (by simp) _
  have B1 : Hid (TBox ((w.alloc (.cells #[.int .i64 last, .int .i64 now, .slice A n c] 27)).alloc (.cells #[.int .i64 0, .int .i64 0, .int .i64 0, .int .i64 0] 65)) w.heap.size last now A n c) := heap_alloc2_old w _ _
  have N1 : Hid (LBox ((w.alloc (.cells #[.int .i64 last, .int .i64 now, .slice A n c] 27)).alloc (.cells #[.int .i64 0, .int .i64 0, .int .i64 0, .int .i64 0] 65)) (w.heap.size + 1) zL) := heap_alloc2_new w _ _
  clear h
  unfold holdP
  simp only
  have HN := Lib.hid (fun h => held_none (key := key) hlen.out h)
  have HY := fun k x => Lib.hid (fun h1 h2 h3 => find_first (l := l) (key := key) (k := k) (x := x) h1 h2 h3)
  rcases hok : okT ⟨last, now, l⟩
  · rw [hok] at HC
    simp only [cond_false] at HC
    go_enter Tryz.func19, Tryz.ntmps19
    go_upto_region 1 with fail
    generalize (w.alloc (.cells #[.int .i64 last, .int .i64 now, .slice A n c] 27)).alloc (.cells #[.int .i64 0, .int .i64 0, .int .i64 0, .int .i64 0] 65) = w1 at *
    obtain ⟨m0, m1, m2⟩ := TBox.cells B1.out
    go_wp2_with fail
    refine (HC w1 (HR.out.below L1.out)).out.mono ?_
    rintro e w2 ⟨rfl, hb⟩
    have L2 := Lib.hid (L1.out.trans (hb.mono L1.out.size))
    have B2 := Lib.hid (Cells.below B1.out hb)
    have N2 := Lib.hid (Cells.below N1.out hb)
    clear hb m0 m1 m2
    obtain ⟨z0, z1, z2, z3⟩ := LBox.cells (x := zL) N2.out
    obtain ⟨f0, f1, f2, f3⟩ := LBox.frozen (x := zL) N2.out
    go_wp2_with fail
    refine bodyPost_ret_by (results_c1 rfl _ _ (w.heap.size + 1) _ _ _ _ rfl (Cells.set4 N2.out (.int .i64 0) (.int .i64 0) (.int .i64 0) (.int .i64 0)) Tryz.underlying65 rfl (by kernel_rfl)) rfl ?_
    exact ⟨rfl, below4 L2.out (by omega) _ _ _ _⟩
  · rw [hok] at HC
    simp only [cond_true] at HC
    go_enter Tryz.func19, Tryz.ntmps19
    go_upto_region 1 with fail
    generalize (w.alloc (.cells #[.int .i64 last, .int .i64 now, .slice A n c] 27)).alloc (.cells #[.int .i64 0, .int .i64 0, .int .i64 0, .int .i64 0] 65) = w1 at *
    obtain ⟨m0, m1, m2⟩ := TBox.cells B1.out
    go_wp2_with fail
    refine (HC w1 (HR.out.below L1.out)).out.mono ?_
    rintro e w2 ⟨rfl, hb⟩
    have L2 := Lib.hid (L1.out.trans (hb.mono L1.out.size))
    have B2 := Lib.hid (Cells.below B1.out hb)
    have N2 := Lib.hid (Cells.below N1.out hb)
    clear hb m0 m1 m2
    obtain ⟨m0, m1, m2⟩ := TBox.cells B2.out
    go_wp2_with fail
    clear m0 m1 m2 B1 N1 L1 HC
    go_loopw [7, 15] (fun _ i wr => ∃ k : Nat, i = .int .i64 k ∧ k ≤ n ∧ Hid (Below w2.heap.size w2 wr ∧ ∀ j y, j < k → l[j]? = some y → y.key ≠ key)) (fun _ i _ => n - (intOf i).toNat)
    case atStart => exact ⟨0, rfl, by omega, Below.refl _ _, fun j y hj => by omega⟩
    case round =>
      obtain ⟨k, rfl, hk, hH⟩ := hrel
      by_cases hlt : k < n
      · obtain ⟨x, hx⟩ := HR.out.get hlt
        obtain ⟨b, o, hA, c0, c1, c2, c3⟩ := RowS.lease_at (HR.out.below (L2.out.trans (hH.out.1.mono L2.out.size))) hx
        subst hA
        have HX := Lib.hid hx
        have hk0 : (0 : Int) ≤ (k : Int) := by omega
        have hkn : (k : Int) < (n : Int) := by omega
        clear hx
        have A1 : Hid (Below w2.heap.size w2 (wr.alloc (.cells #[.int .i64 x.key, .int .i64 x.host, .int .i64 x.epoch, .int .i64 x.til] 65))) := hH.out.1.alloc hH.out.1.size _
        have X1 : Hid (LBox (wr.alloc (.cells #[.int .i64 x.key, .int .i64 x.host, .int .i64 x.epoch, .int .i64 x.til] 65)) wr.heap.size x) := Cells.new _ _ _
        go_upto_region 6 with fail
        clear c0 c1 c2 c3
        have N3 := Lib.hid (Cells.below N2.out A1.out)
        generalize wr.alloc (.cells #[.int .i64 x.key, .int .i64 x.host, .int .i64 x.epoch, .int .i64 x.til] 65) = w3 at *
        obtain ⟨n0, n1, n2, n3⟩ := LBox.cells X1.out
        rcases e : (x.key == key)
        · have HE : Hid (¬ x.key = key) := by show ¬ _; simpa using e
          go_wp2_with fail
          go_roundw
          case rel =>
            refine ⟨k + 1, by go_num, by omega, A1.out, fun j y hj hy => ?_⟩
            by_cases h1 : j = k
            · subst h1
              have := HX.out.symm.trans hy
              injection this with this; subst this
              exact HE.out
            · exact hH.out.2 j y (by omega) hy
          case measure => simp [intOf]; omega
        · have hkk : x.key = key := by simpa using e
          have HF := Lib.hid ((HY k x).out hH.out.2 HX.out hkk)
          have HHB : Hid (heldB l key = true) := by show _ = _; rw [find_held, HF.out]; rfl
          have HG : Hid (getL l key = x) := by show _ = _; unfold getL; rw [HF.out]; rfl
          clear hkk
          obtain ⟨z0, z1, z2, z3⟩ := LBox.cells (x := zL) N3.out
          obtain ⟨f0, f1, f2, f3⟩ := LBox.frozen (x := zL) N3.out
          go_wp2_with fail
          refine bodyPost_ret_by (results_c1 rfl _ _ (w.heap.size + 1) _ _ _ _ rfl (Cells.set4 N3.out (.int .i64 x.key) (.int .i64 x.host) (.int .i64 x.epoch) (.int .i64 x.til)) Tryz.underlying65 rfl (by kernel_rfl)) rfl ?_
          exact ⟨by rw [HHB.out, HG.out]; rfl, below4 (L2.out.trans (A1.out.mono L2.out.size)) (by omega) _ _ _ _⟩
      · have hkn : k = n := by omega
        subst hkn
        have HHB := Lib.hid (HN.out hH.out.2)
        have N3 := Lib.hid (Cells.below N2.out hH.out.1)
        obtain ⟨z0, z1, z2, z3⟩ := LBox.cells (x := zL) N3.out
        obtain ⟨f0, f1, f2, f3⟩ := LBox.frozen (x := zL) N3.out
        go_wp2_with fail
        refine bodyPost_ret_by (results_c1 rfl _ _ (w.heap.size + 1) _ _ _ _ rfl (Cells.set4 N3.out (.int .i64 0) (.int .i64 0) (.int .i64 0) (.int .i64 0)) Tryz.underlying65 rfl (by kernel_rfl)) rfl ?_
        exact ⟨by rw [HHB.out]; rfl, below4 (L2.out.trans (hH.out.1.mono L2.out.size)) (by omega) _ _ _ _⟩


end Lea
end Go.Proofs.YtcpkgcckjphbfaaGreat
