/-
  WALKS: slices.SortStableFunc over a row of at most 64 ints.
-/
import Derived.Test.YtnnphpfobdcmbaaLivMerge
import Derived.Test.YtnnphpfobdcmbaaLivRuns
import Derived.Test.YtnnphpfobdcmbaaLivLay
namespace Go.Proofs.Ytnnphpfobdcmbaa
open Go.Shelf Go.RowKit Go.Lib Go.Sort Stab
namespace Liv
variable {α : Type} [Inhabited α]
set_option maxRecDepth 100000 in
set_option maxHeartbeats 8000000 in
theorem ins_s {enc : α → Value} {cf : α → α → Int} {key : α → Int} {r : α → α → Prop} (HLT : Hid (∀ x y, decide (cf x y < 0) = decide (key x < key y))) {g : Nat} {cb : Array Value} (eg : ∀ args w, (callFunc g args).run Try.prog w = .ok (.enter g args) w) {blk off : Nat} (cap : Nat) {d0 : Array α} {w0 : World} (hcmp : CmpLays1 Try.prog g cb enc cf blk off d0.size w0) (R : Row1 enc w0 blk off d0)
    (a b : Nat) (d : Array α) (w : World) (hab : a ≤ b) (hb : b ≤ d.size) (hsz : d.size < 1000000) (hs : d0.size = d.size) (S : SW enc w0 blk off d w) (hU : Stb key r d a b) :
    Calls Try.prog 70 #[.slice (some ⟨blk, off, none⟩) d.size cap, .int .i64 a, .int .i64 b, .func (.func g) #[] cb] w fun e w' => e = .returned (.tuple #[]) ∧ ∃ d', Srt key r d' a b ∧ Mv d d' a b ∧ SW enc w0 blk off d' w' := by
  have h := ins_spec (lt := ltOf cf) (fun x y => HLT.out x y) hab hb hU
  refine Calls.mono (show Calls Try.prog 70 _ _ _ from Any.insertionSortCmpFunc_s laysIns enc cf g cb blk off cap a b d0 d w0 w eg hcmp R hs S hab hb (by omega)) (fun e w' ⟨h1, h2⟩ => ⟨h1, _, h.1, h.2, h2⟩)

set_option maxRecDepth 100000 in
set_option maxHeartbeats 16000000 in
theorem stable_s {enc : α → Value} {cf : α → α → Int} {key : α → Int} {r : α → α → Prop} (HLT : Hid (∀ x y, decide (cf x y < 0) = decide (key x < key y))) {g : Nat} {cb : Array Value} (eg : ∀ args w, (callFunc g args).run Try.prog w = .ok (.enter g args) w) {blk off : Nat} (cap : Nat) {d0 : Array α} {w0 : World} (hcmp : CmpLays1 Try.prog g cb enc cf blk off d0.size w0) (R : Row1 enc w0 blk off d0)
    (n : Nat) (d : Array α) (w : World) (hn : d.size = n) (hn2 : n ≤ 64) (hs : d0.size = n) (S : SW enc w0 blk off d w) (hU : Stb key r d 0 n) :
    Calls Try.prog 50 #[.slice (some ⟨blk, off, none⟩) n cap, .int .i64 n, .func (.func g) #[] cb] w fun e w' => e = .returned (.tuple #[]) ∧ ∃ d', Srt key r d' 0 n ∧ Mv d d' 0 n ∧ SW enc w0 blk off d' w' := by
  have HINS := fun a b (d : Array α) w h1 h2 h3 h4 h5 h6 => Lib.hid (ins_s (r := r) HLT eg cap hcmp R a b d w h1 h2 h3 h4 h5 h6)
  have HMRG := fun a m b (d : Array α) w h1 h2 h3 h4 h5 h6 h7 h8 h9 => Lib.hid (symMerge_s (r := r) HLT eg cap hcmp R (b - a) a m b d w (Nat.le_refl _) h1 h2 h3 h4 h5 h6 h7 h8 h9)
  have HU := Lib.hid hU
  have S0 : Aside (SW enc w0 blk off d w) := S
  have HN := Lib.hid hn
  clear S hU hcmp hn
  go_enter Try.func50, Try.ntmps50
  go_wp2_with fail
  go_loopg [7, 8] (n / 20) (fun gx va vb wr => ∃ (a : Nat) (dk : Array α), va = .int .i64 a ∧ vb = .int .i64 ((a + 20 : Nat) : Int) ∧ a ≤ n ∧ (n - a) / 20 ≤ gx ∧ dk.size = n ∧ Aside (SW enc w0 blk off dk wr) ∧ Hid (Ins key r dk a ∧ Mv d dk 0 n ∧ Stb key r dk 0 n))
  case atStart => exact ⟨0, d, rfl, rfl, by omega, Nat.le_refl _, HN.out, S0, Ins.start d, Mv.refl _ _ _, HU.out⟩
  case round =>
    clear S0
    obtain ⟨a, dk, rfl, rfl, han, hgx, hsk, S1, HI⟩ := hrel
    have hb : ((a + 20 : Nat) : Int) = (a : Int) + 20 := by omega
    by_cases hlt : a + 20 ≤ n
    · have hltz : (a : Int) + 20 ≤ (n : Int) := by omega
      have hgn : (n - (a + 20)) / 20 < (n - a) / 20 := by omega
      have HC1 := fun w h => Lib.hid (HINS a (a + 20) dk w (by omega) (by omega) (by omega) (by omega) h (HI.out.2.2.mono (Nat.zero_le _) hlt)).out
      rw [hsk, hb] at HC1
      go_wp2_with (go_at_call 70; refine (HC1 _ S1.out).out.mono ?_; rintro e' w2 ⟨rfl, d2, hA, hB, hS⟩; have HW := Lib.hid (And.intro hA hB); have S2 : Aside (SW enc w0 blk off d2 w2) := hS; clear hA hB hS)
      go_roundg ((n - (a + 20)) / 20)
      case measure => omega
      case rel => exact ⟨a + 20, d2, by go_num, by go_num, hlt, Nat.le_refl _, HW.out.2.size.trans hsk, S2, HI.out.1.step HW.out.1 HW.out.2, HI.out.2.1.trans (HW.out.2.mono (Nat.zero_le _) hlt), stb_moved HI.out.2.2 HW.out.2 (Nat.zero_le _) hlt HW.out.1.stb⟩
    · have hltz : ¬ (a : Int) + 20 ≤ (n : Int) := by omega
      have HC1 := fun w h => Lib.hid (HINS a n dk w (by omega) (by omega) (by omega) (by omega) h (HI.out.2.2.mono (Nat.zero_le _) (Nat.le_refl _))).out
      rw [hsk] at HC1
      go_wp2_with (go_at_call 70; refine (HC1 _ S1.out).out.mono ?_; rintro e' w2 ⟨rfl, d2, hA, hB, hS⟩; have HW := Lib.hid (And.intro hA hB); have S2 : Aside (SW enc w0 blk off d2 w2) := hS; clear hA hB hS)
      have H2 := Lib.hid (show Runs key r 20 d2 n ∧ Mv d d2 0 n ∧ Stb key r d2 0 n from ⟨HI.out.1.runs han (by omega) HW.out.1 HW.out.2, HI.out.2.1.trans (HW.out.2.mono (Nat.zero_le _) (Nat.le_refl _)), stb_moved HI.out.2.2 HW.out.2 (Nat.zero_le _) (Nat.le_refl _) HW.out.1.stb⟩)
      have hs2 : d2.size = n := HW.out.2.size.trans hsk
      clear S1 HI HC1 HW hsk hb hlt hltz hgx
      go_loopg [6] (100 - 20) (fun gx vB wr => ∃ (B : Nat) (dk : Array α), vB = .int .i64 B ∧ (B = 20 ∨ B = 40 ∨ B = 80) ∧ 100 - B ≤ gx ∧ dk.size = n ∧ Aside (SW enc w0 blk off dk wr) ∧ Hid (Runs key r B dk n ∧ Mv d dk 0 n ∧ Stb key r dk 0 n))
      case atStart => exact ⟨20, d2, rfl, .inl rfl, Nat.le_refl _, hs2, S2, H2.out⟩
      case round =>
        clear S2 H2
        obtain ⟨B, dk, rfl, hB, hgx, hsk, S1, HI⟩ := hrel
        by_cases hlt : B < n
        · have hltz : (B : Int) < (n : Int) := by omega
          have hB2 : B = 20 ∨ B = 40 := by omega
          have HB := Lib.hid hB2
          have hBb : 20 ≤ B ∧ B ≤ 40 := by omega
          have HI2 := Lib.hid (show Two key r B dk 0 n ∧ Mv d dk 0 n ∧ Stb key r dk 0 n from ⟨HI.out.1.two, HI.out.2⟩)
          clear hB hB2 HI
          have h2B : 2 * (B : Int) = ((2 * B : Nat) : Int) := by omega
          have hB2 : (B : Int) * 2 = ((B * 2 : Nat) : Int) := by omega
          generalize hC : 2 * B = C at h2B
          generalize hD : B * 2 = D at hB2
          have HCD := Lib.hid (And.intro hC hD)
          clear hC hD
          have hCb : 40 ≤ C ∧ C ≤ 80 := by have := HCD.out; omega
          go_wp2_with fail
          go_loopg [7, 8] (n / 20) (fun gx2 va vb wr => ∃ (a : Nat) (dj : Array α), va = .int .i64 a ∧ vb = .int .i64 ((a + C : Nat) : Int) ∧ a ≤ n ∧ (n - a) / 20 ≤ gx2 ∧ dj.size = n ∧ Aside (SW enc w0 blk off dj wr) ∧ Hid (Two key r B dj a n ∧ Mv d dj 0 n ∧ Stb key r dj 0 n))
          case atStart => exact ⟨0, dk, rfl, by rw [Nat.zero_add], by omega, Nat.le_refl _, hsk, S1, HI2.out⟩
          case round =>
            clear S1 HI2
            obtain ⟨a, dj, rfl, rfl, haj, hgx2, hsj, S3, HJ⟩ := hrel
            by_cases hl2 : a + C ≤ n
            · have hl2z : ((a + C : Nat) : Int) ≤ (n : Int) := by omega
              have hmz : (a : Int) + (B : Int) = ((a + B : Nat) : Int) := by omega
              have hpre := HJ.out.1.pre HB.out (by have := HCD.out; omega)
              rw [HCD.out.1] at hpre
              have hgn : (n - (a + C)) / 20 < (n - a) / 20 := by omega
              have HC1 := fun w h => Lib.hid (HMRG a (a + B) (a + C) dj w (by omega) (by have := HCD.out; omega) (by omega) (by omega) (by omega) h hpre.1 hpre.2 (HJ.out.2.2.mono (Nat.zero_le _) hl2)).out
              rw [hsj] at HC1
              clear hpre
              have hl2' := Lib.hid hl2
              generalize hM : a + B = M at *
              generalize hE : a + C = E at *
              have HE := Lib.hid (And.intro hM hE)
              clear hM hE
              go_wp2_with (go_at_call 71; refine (HC1 _ S3.out).out.mono ?_; rintro e' w3 ⟨rfl, d3, hA, hB, hS⟩; have HW := Lib.hid (And.intro hA hB); have S4 : Aside (SW enc w0 blk off d3 w3) := hS; clear hA hB hS)
              go_roundg ((n - E) / 20)
              case measure => omega
              case rel => exact ⟨E, d3, rfl, by first | rfl | go_num, hl2, Nat.le_refl _, HW.out.2.size.trans hsj, S4, by have h := HJ.out.1.step HB.out (d' := d3) (by rw [HCD.out.1, HE.out.2]; exact HW.out.1) (by rw [HCD.out.1, HE.out.2]; exact HW.out.2); rw [HCD.out.1, HE.out.2] at h; exact h, HJ.out.2.1.trans (HW.out.2.mono (Nat.zero_le _) hl2), stb_moved HJ.out.2.2 HW.out.2 (Nat.zero_le _) hl2 HW.out.1.stb⟩
            · have hl2z : ¬ ((a + C : Nat) : Int) ≤ (n : Int) := by omega
              have hmz : (a : Int) + (B : Int) = ((a + B : Nat) : Int) := by omega
              by_cases hm : a + B < n
              · have hmn : ((a + B : Nat) : Int) < (n : Int) := by omega
                have hpre := HJ.out.1.last_pre HB.out (by have := HCD.out; omega) hm
                have HC1 := fun w h => Lib.hid (HMRG a (a + B) n dj w (by omega) hm (by omega) (by omega) (by omega) h hpre.1 hpre.2 (HJ.out.2.2.mono (Nat.zero_le _) (Nat.le_refl _))).out
                rw [hsj] at HC1
                have HNL : Hid (n < a + 2 * B) := by have := HCD.out; show _ < _; omega
                clear hpre
                generalize hM : a + B = M at *
                generalize hE : a + C = E at *
                clear hM hE
                go_wp2_with (go_at_call 71; refine (HC1 _ S3.out).out.mono ?_; rintro e' w3 ⟨rfl, d3, hA, hB, hS⟩; have HW := Lib.hid (And.intro hA hB); have S4 : Aside (SW enc w0 blk off d3 w3) := hS; clear hA hB hS)
                go_roundg (100 - D)
                case measure => have := HCD.out; omega
                case rel => exact ⟨D, d3, by first | rfl | go_num, by have := HCD.out; rcases HB.out with h | h <;> omega, Nat.le_refl _, HW.out.2.size.trans hsj, S4, by have h := HJ.out.1.last HB.out haj HNL.out HW.out.1 HW.out.2; rw [HCD.out.2] at h; exact h, HJ.out.2.1.trans (HW.out.2.mono (Nat.zero_le _) (Nat.le_refl _)), stb_moved HJ.out.2.2 HW.out.2 (Nat.zero_le _) (Nat.le_refl _) HW.out.1.stb⟩
              · have hmn : ¬ ((a + B : Nat) : Int) < (n : Int) := by omega
                have HNL : Hid (n < a + 2 * B) := by have := HCD.out; show _ < _; omega
                have HNO := Lib.hid (HJ.out.1.last_none HB.out hm)
                generalize hM : a + B = M at *
                generalize hE : a + C = E at *
                clear hM hE
                go_wp2_with fail
                go_roundg (100 - D)
                case measure => have := HCD.out; omega
                case rel => exact ⟨D, dj, by first | rfl | go_num, by have := HCD.out; rcases HB.out with h | h <;> omega, Nat.le_refl _, hsj, S3, by have h := HJ.out.1.last HB.out haj HNL.out HNO.out (Mv.refl _ _ _); rw [HCD.out.2] at h; exact h, HJ.out.2⟩
        · have hltz : ¬ (B : Int) < (n : Int) := by omega
          go_wp2_with fail
          go_end0
          exact ⟨rfl, dk, HI.out.1.done (by omega), HI.out.2.1, S1.out⟩
end Liv
end Go.Proofs.Ytnnphpfobdcmbaa
