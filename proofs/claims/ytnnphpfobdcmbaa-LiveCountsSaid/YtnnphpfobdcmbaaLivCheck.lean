/-
  WALKS: extent.Check, of any list; arguments: extents whose lengths are an int's.
-/
import Derived.Test.YtnnphpfobdcmbaaExtRef
import Derived.Test.YtnnphpfobdcmbaaExtArgs
namespace Go.Proofs.Ytnnphpfobdcmbaa
open Go.RowKit Mem
namespace Ext

theorem mayE_code (x : Ex) : mayE x = (rangeB x.lba x.n && (!decide (x.ver < 0) && (bif x.zone == -1 then x.off == 0 else (decide (0 ≤ x.zone) && (decide (x.zone ≤ 1099511627776) && (decide (0 ≤ x.off) && decide (x.off ≤ 1125899906842624 - x.n * 16))))))) := by
  rw [Bool.eq_iff_iff, mayE_iff]
  unfold MayX
  by_cases h : x.zone = -1
  · have : (x.zone == -1) = true := by simpa using h
    simp only [this, cond_true, Bool.and_eq_true, beq_iff_eq, Bool.not_eq_true', decide_eq_false_iff_not, rangeB_iff]
    omega
  · have : (x.zone == -1) = false := by simpa using h
    simp only [this, cond_false, Bool.and_eq_true, decide_eq_true_eq, Bool.not_eq_true', decide_eq_false_iff_not, rangeB_iff]
    omega
set_option maxRecDepth 100000 in
set_option maxHeartbeats 3200000 in
theorem mayBe_all (x : Ex) (hn : x.n ≤ 9223372036854775807) (w : World) : Calls Try.prog 40 #[xv x] w fun e w' => e = .returned (.bool (mayE x)) ∧ Below w.heap.size w w' := by
  have HM := Lib.hid (mayE_code x)
  generalize mayE x = r at *
  have HB := fun w => Lib.hid (blocks_any x.lba x.n hn w)
  have A1 : Hid (Below w.heap.size w (w.alloc (.cells #[.int .i64 x.lba, .int .i64 x.n, .int .i64 x.ver, .int .i64 x.zone, .int .i64 x.off] 32))) := (Below.refl _ w).alloc (Nat.le_refl _) _
  have B1 : Hid (LBox (w.alloc (.cells #[.int .i64 x.lba, .int .i64 x.n, .int .i64 x.ver, .int .i64 x.zone, .int .i64 x.off] 32)) w.heap.size x) := Cells.new _ _ _
  obtain ⟨n0, n1, n2, n3, n4⟩ := LBox.cells B1.out
  generalize HW : w.alloc (.cells #[.int .i64 x.lba, .int .i64 x.n, .int .i64 x.ver, .int .i64 x.zone, .int .i64 x.off] 32) = w1 at *
  rcases f0 : rangeB x.lba x.n
  · rw [f0] at HB HM
    subst HW
    clear hn
    go_enter Try.func40, Try.ntmps40
    go_wp2_with (go_at_call 45; refine (HB _).out.mono ?_; rintro e w2 ⟨rfl, rfl⟩)
    go_ret
    exact ⟨by rw [HM.out]; rfl, A1.out⟩
  · have hr := rangeB_iff.1 f0
    have hw1 : IntKind.i64.wrap (x.n * 16) = x.n * 16 := wrap_small (by omega) (by omega)
    have hw2 : IntKind.i64.wrap (1125899906842624 - x.n * 16) = 1125899906842624 - x.n * 16 := wrap_small (by omega) (by omega)
    rw [f0] at HB HM
    clear hr hn f0
    rcases f1 : decide (x.ver < 0)
    · rcases f2 : (x.zone == -1)
      · rcases f3 : decide (0 ≤ x.zone)
        · rw [f1, f2, f3] at HM
          subst HW
          go_enter Try.func40, Try.ntmps40
          go_wp2_with (go_at_call 45; refine (HB _).out.mono ?_; rintro e w2 ⟨rfl, rfl⟩)
          go_ret
          exact ⟨by rw [HM.out]; rfl, A1.out⟩
        · rcases f4 : decide (x.zone ≤ 1099511627776)
          · rw [f1, f2, f3, f4] at HM
            subst HW
            go_enter Try.func40, Try.ntmps40
            go_wp2_with (go_at_call 45; refine (HB _).out.mono ?_; rintro e w2 ⟨rfl, rfl⟩)
            go_ret
            exact ⟨by rw [HM.out]; rfl, A1.out⟩
          · rcases f5 : decide (0 ≤ x.off)
            · rw [f1, f2, f3, f4, f5] at HM
              subst HW
              go_enter Try.func40, Try.ntmps40
              go_wp2_with (go_at_call 45; refine (HB _).out.mono ?_; rintro e w2 ⟨rfl, rfl⟩)
              go_ret
              exact ⟨by rw [HM.out]; rfl, A1.out⟩
            · rcases f6 : decide (x.off ≤ 1125899906842624 - x.n * 16)
              · rw [f1, f2, f3, f4, f5, f6] at HM
                subst HW
                go_enter Try.func40, Try.ntmps40
                go_wp2_with (go_at_call 45; refine (HB _).out.mono ?_; rintro e w2 ⟨rfl, rfl⟩)
                go_ret
                exact ⟨by rw [HM.out]; rfl, A1.out⟩
              · rw [f1, f2, f3, f4, f5, f6] at HM
                subst HW
                go_enter Try.func40, Try.ntmps40
                go_wp2_with (go_at_call 45; refine (HB _).out.mono ?_; rintro e w2 ⟨rfl, rfl⟩)
                go_ret
                exact ⟨by rw [HM.out]; rfl, A1.out⟩
      · have hz : x.zone = -1 := by simpa using f2
        rcases f3 : (x.off == 0)
        · rw [f1, f2, f3] at HM
          subst HW
          clear hz
          go_enter Try.func40, Try.ntmps40
          go_wp2_with (go_at_call 45; refine (HB _).out.mono ?_; rintro e w2 ⟨rfl, rfl⟩)
          go_ret
          exact ⟨by rw [HM.out]; rfl, A1.out⟩
        · rw [f1, f2, f3] at HM
          subst HW
          clear hz
          go_enter Try.func40, Try.ntmps40
          go_wp2_with (go_at_call 45; refine (HB _).out.mono ?_; rintro e w2 ⟨rfl, rfl⟩)
          go_ret
          exact ⟨by rw [HM.out]; rfl, A1.out⟩
    · rw [f1] at HM
      subst HW
      go_enter Try.func40, Try.ntmps40
      go_wp2_with (go_at_call 45; refine (HB _).out.mono ?_; rintro e w2 ⟨rfl, rfl⟩)
      go_ret
      exact ⟨by rw [HM.out]; rfl, A1.out⟩

/-- A list whose extents' lengths are an int's. -/
def SmallN (l : List Ex) : Prop := ∀ x ∈ l, x.n ≤ 9223372036854775807

set_option maxRecDepth 100000 in
set_option maxHeartbeats 3200000 in
theorem check_all {A : Option Addr} {n c : Nat} {l : List Ex} {w : World} (h : RowL w A n c l) (hs : SmallN l) :
    Calls Try.prog 22 #[.slice A n c] w fun e w' => e = .returned (.int .i64 (bif okE l then 0 else 1)) ∧ Below w.heap.size w w' := by
  have HR := Lib.hid h
  have hbig := h.big
  have hlen := Lib.hid h.len
  have HS := Lib.hid hs
  clear h hs
  have HE0 : Hid (okE l = true ∨ okE l = false) := by show _ ∨ _; cases okE l <;> simp
  generalize hok : okE l = ok at HE0
  have HOK := Lib.hid hok
  clear hok HE0
  go_enter Try.func22, Try.ntmps22
  go_wp2_with fail
  go_loopw [3, 5, 8] (fun s _ i wr => ∃ (k : Nat) (u : Int), i = .int .i64 k ∧ s = .int .i64 u ∧ k ≤ n ∧ Hid (Below w.heap.size w wr ∧ endF 0 (l.take k) = u ∧ okF 0 (l.take k) = true)) (fun _ _ i _ => n - (intOf i).toNat)
  case atStart => exact ⟨0, 0, rfl, rfl, by omega, Below.refl _ _, rfl, rfl⟩
  case round =>
    obtain ⟨k, u, rfl, rfl, hk, hH⟩ := hrel
    by_cases hlt : k < n
    · obtain ⟨x, hx⟩ := HR.out.get hlt
      obtain ⟨b, o, hA, d0, d1, d2, d3, d4⟩ := RowS.ext_at (HR.out.below hH.out.1) hx
      subst hA
      have hsm := HS.out x (List.mem_of_getElem? hx)
      have hk0 : (0 : Int) ≤ (k : Int) := by omega
      have hkn : (k : Int) < (n : Int) := by omega
      have HX := Lib.hid hx
      clear hx
      have A1 : Hid (Below wr.heap.size wr (wr.alloc (.cells #[.int .i64 x.lba, .int .i64 x.n, .int .i64 x.ver, .int .i64 x.zone, .int .i64 x.off] 32))) := (Below.refl _ wr).alloc (Nat.le_refl _) _
      have B1 : Hid (LBox (wr.alloc (.cells #[.int .i64 x.lba, .int .i64 x.n, .int .i64 x.ver, .int .i64 x.zone, .int .i64 x.off] 32)) wr.heap.size x) := Cells.new _ _ _
      obtain ⟨n0, n1, n2, n3, n4⟩ := LBox.cells B1.out
      have HM1 := fun w => Lib.hid (mayBe_all x hsm w)
      have HE1 := fun (h : mayE x = true) w => Lib.hid (end_any x (mayE_iff.1 h) w)
      have HBAD := fun (h : (mayE x && decide (endF 0 (l.take k) ≤ x.lba)) = false) => Lib.hid (okE_bad HX.out h)
      have HSTEP := fun (h : (mayE x && decide (endF 0 (l.take k) ≤ x.lba)) = true) => Lib.hid (okE_step HX.out hH.out.2.2 h)
      rw [hH.out.2.1] at HBAD HSTEP
      clear hsm
      rcases hm : mayE x
      · rw [hm] at HM1 HBAD
        clear hm HE1 HSTEP
        go_upto_region 5 with fail
        generalize wr.alloc (.cells #[.int .i64 x.lba, .int .i64 x.n, .int .i64 x.ver, .int .i64 x.zone, .int .i64 x.off] 32) = w1 at *
        have L1 := Lib.hid (hH.out.1.trans (A1.out.mono hH.out.1.size))
        clear d0 d1 d2 d3 d4 A1
        go_wp2_with (go_at_call 40; refine (HM1 _).out.mono ?_; rintro e w2 ⟨rfl, hb⟩; have L2 := Lib.hid (L1.out.trans (hb.mono L1.out.size)); clear hb)
        go_ret
        exact ⟨by rw [← HOK.out, (HBAD rfl).out]; rfl, L2.out⟩
      · rw [hm] at HM1 HBAD HSTEP
        have HE2 := fun w => HE1 hm w
        clear hm HE1
        rcases hl : decide (x.lba < u)
        · have hl' : decide (u ≤ x.lba) = true := decide_eq_true (by have := of_decide_eq_false hl; omega)
          have HS2 := HSTEP (by rw [hl']; rfl)
          clear HSTEP HBAD hl'
          go_upto_region 5 with fail
          generalize wr.alloc (.cells #[.int .i64 x.lba, .int .i64 x.n, .int .i64 x.ver, .int .i64 x.zone, .int .i64 x.off] 32) = w1 at *
          have L1 := Lib.hid (hH.out.1.trans (A1.out.mono hH.out.1.size))
          clear d0 d1 d2 d3 d4 A1
          go_wp2_with (first | (go_at_call 40; refine (HM1 _).out.mono ?_; rintro e w2 ⟨rfl, hb⟩; have L2 := Lib.hid (L1.out.trans (hb.mono L1.out.size)); have B2 := Lib.hid (Cells.below B1.out hb); clear hb; obtain ⟨m0, m1, m2, m3, m4⟩ := LBox.cells B2.out) | (go_at_call 41; refine (HE2 _).out.mono ?_; rintro e w3 ⟨rfl, hb⟩; have L3 := Lib.hid (L2.out.trans (hb.mono L2.out.size)); clear hb) | fail)
          go_roundw
          case rel => exact ⟨k + 1, x.en, by go_num, rfl, by omega, L3.out, HS2.out.1, HS2.out.2⟩
          case measure => simp [intOf]; omega
        · have hl' : decide (u ≤ x.lba) = false := decide_eq_false (by have := of_decide_eq_true hl; omega)
          have HS2 := HBAD (by rw [hl']; rfl)
          clear HSTEP HBAD hl'
          go_upto_region 5 with fail
          generalize wr.alloc (.cells #[.int .i64 x.lba, .int .i64 x.n, .int .i64 x.ver, .int .i64 x.zone, .int .i64 x.off] 32) = w1 at *
          have L1 := Lib.hid (hH.out.1.trans (A1.out.mono hH.out.1.size))
          clear d0 d1 d2 d3 d4 A1
          go_wp2_with (go_at_call 40; refine (HM1 _).out.mono ?_; rintro e w2 ⟨rfl, hb⟩; have L2 := Lib.hid (L1.out.trans (hb.mono L1.out.size)); have B2 := Lib.hid (Cells.below B1.out hb); clear hb; obtain ⟨m0, m1, m2, m3, m4⟩ := LBox.cells B2.out)
          go_ret
          exact ⟨by rw [← HOK.out, HS2.out]; rfl, L2.out⟩
    · have hkn : l.take k = l := List.take_of_length_le (by have := hlen.out; omega)
      have HK := Lib.hid hkn
      clear hkn
      go_wp2_with fail
      go_ret
      have hh := hH.out
      rw [HK.out] at hh
      exact ⟨by rw [← HOK.out, show okE l = true from hh.2.2]; rfl, hh.1⟩
end Ext
namespace Args
open Go.Deep Ext
variable {H : Type} {enc : TypeId × Value → H} {W : World}
set_option maxRecDepth 100000 in
theorem raw_extN {fuel : Nat} {cs : List Value} {x : DataW H × List MemPlace} (hf : DataW.trod enc Try.prog W 0 (fun _ => true) true fuel 32 cs = some x) (hl : cs.length = 5) :
    ∃ v : Ex, cs = cellsL v ∧ v.n ≤ 9223372036854775807 := by
  have hu := Try.underlying32
  match cs, hl with
  | [c0, c1, c2, c3, c4], _ =>
    obtain ⟨xs, n, _, hx, _, hlen, hg⟩ := DataW.trod_struct hu hf
    have hxl : xs.length = 5 := hlen
    match xs, hxl with
    | [y0, y1, y2, y3, y4], _ =>
      have o3 : Try.prog.cellsOf 3 = 1 := by kernel_rfl
      have g0 := hg 0 _ rfl
      have g1 := hg 1 _ rfl
      have g2 := hg 2 _ rfl
      have g3 := hg 3 _ rfl
      have g4 := hg 4 _ rfl
      simp [o3] at g0 g1 g2 g3 g4
      obtain ⟨z0, h0, -, w0⟩ := DataW.trod_int Try.underlying3 g0
      obtain ⟨z1, h1, -, w1⟩ := DataW.trod_int Try.underlying3 g1
      obtain ⟨z2, h2, -, w2⟩ := DataW.trod_int Try.underlying3 g2
      obtain ⟨z3, h3, -, w3⟩ := DataW.trod_int Try.underlying3 g3
      obtain ⟨z4, h4, -, w4⟩ := DataW.trod_int Try.underlying3 g4
      simp only [List.cons.injEq, and_true] at h0 h1 h2 h3 h4
      subst h0 h1 h2 h3 h4
      refine ⟨⟨z0, z1, z2, z3, z4⟩, rfl, ?_⟩
      show z1 ≤ _
      simp [Lit.wf, IntKind.wrap_i64] at w1
      omega
set_option maxRecDepth 100000 in
theorem open_extsN {v : Value} {d : DataW H} {p : List MemPlace} {base : Nat} (hok : Value.okWide Try.prog W .any base 22 v) (h : DataW.Trod enc Try.prog W 0 (fun _ => true) true 22 v d p)
    (hs : ∀ q ∈ d.weights Try.prog 22, q ≤ reachBytes) : ∃ A n c xs, v = .slice A n c ∧ RowL W A n c xs ∧ SmallN xs := by
  obtain ⟨A, n, c, xs, h1, h2, h3⟩ := open_rowS (cells := cellsL) (k := 5) (bytes := 40) (p := fun x : Ex => x.n ≤ 9223372036854775807) Try.underlying22 (by kernel_rfl) (by kernel_rfl) (by omega) (by omega) (fun fuel cs x hf hl _ => raw_extN hf hl) hok h hs
  exact ⟨A, n, c, xs, h1, h2, h3⟩
end Args
end Go.Proofs.Ytnnphpfobdcmbaa
