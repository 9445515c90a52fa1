/-
  WALKS: sort.Find; where one who asked, and an answer, stand; what is known of one.
-/
import Derived.Test.YtndcflchdecofaaDedRead
namespace Go.Proofs.Ytndcflchdecofaa
open Go.RowKit Mem Box
namespace Ded

set_option maxRecDepth 100000 in
set_option maxHeartbeats 800000 in
theorem isNaN_any (a : Int) (w : World) : Calls Try.prog 47 #[.int .i64 a] w fun e w' => e = .returned (.bool false) ∧ w' = w := by
  go_enter Try.func47, Try.ntmps47
  go_wp2
  go_ret
  exact ⟨by simp, rfl⟩
/-- What cmp.Compare tells of two. -/
def cmpI (a b : Int) : Int := bif decide (a < b) then -1 else bif decide (b < a) then 1 else 0
set_option maxRecDepth 100000 in
set_option maxHeartbeats 1600000 in
theorem compare_any (a b : Int) (w : World) : Calls Try.prog 34 #[.int .i64 a, .int .i64 b] w fun e w' => e = .returned (.int .i64 (cmpI a b)) ∧ w' = w := by
  have HN := fun a w => Lib.hid (isNaN_any a w)
  unfold cmpI
  rcases e1 : decide (a < b)
  · rcases e2 : decide (b < a)
    · go_enter Try.func34, Try.ntmps34
      go_wp2_with (go_at_call 47; refine (HN _ _).out.mono ?_; rintro e w2 ⟨rfl, rfl⟩)
      go_ret
      exact ⟨rfl, rfl⟩
    · go_enter Try.func34, Try.ntmps34
      go_wp2_with (go_at_call 47; refine (HN _ _).out.mono ?_; rintro e w2 ⟨rfl, rfl⟩)
      go_ret
      exact ⟨rfl, rfl⟩
  · go_enter Try.func34, Try.ntmps34
    go_wp2_with (go_at_call 47; refine (HN _ _).out.mono ?_; rintro e w2 ⟨rfl, rfl⟩)
    go_ret
    exact ⟨rfl, rfl⟩
theorem cmp_gt (a b : Int) : decide (0 < cmpI a b) = decide (b < a) := by
  unfold cmpI
  by_cases h1 : a < b
  · rw [decide_eq_true h1, cond_true, decide_eq_false (show ¬ b < a by omega)]; rfl
  · rw [decide_eq_false h1, cond_false]
    by_cases h2 : b < a
    · rw [decide_eq_true h2]; rfl
    · rw [decide_eq_false h2]; rfl
theorem cmp_eq (a b : Int) : (cmpI a b == 0) = decide (b = a) := by
  unfold cmpI
  by_cases h1 : a < b
  · rw [decide_eq_true h1, cond_true, decide_eq_false (show ¬ b = a by omega)]; rfl
  · rw [decide_eq_false h1, cond_false]
    by_cases h2 : b < a
    · rw [decide_eq_true h2, decide_eq_false (show ¬ b = a by omega)]; rfl
    · rw [decide_eq_false h2, decide_eq_true (show b = a by omega)]; rfl

set_option maxRecDepth 100000 in
set_option maxHeartbeats 3200000 in
/-- sort.Find of v among numbers that rise. -/
theorem find_any {n : Nat} {vs : List Int} {v : Int} {w : World} (g : Nat) (lb : Array Value) (eg : ∀ args w, (callFunc g args).run Try.prog w = .ok (.enter g args) w) (hl : vs.length = n) (hn : n ≤ 140737488351232) (hr : vs.Pairwise (· < ·))
    (hf : ∀ (W : World) (i : Nat) (u : Int), Below w.heap.size w W → vs[i]? = some u → Calls Try.prog g (#[.int .i64 i] ++ lb) W fun e w' => e = .returned (.int .i64 (cmpI v u)) ∧ Below W.heap.size W w') :
    Calls Try.prog 32 #[.int .i64 n, .func (.func g) #[] lb] w fun e w' => e = .returned (.tuple #[.int .i64 (atV vs v), .bool (hasV vs v)]) ∧ Below w.heap.size w w' := by
  have HF := Lib.hid hf
  have HL := Lib.hid hl
  have HR := Lib.hid hr
  have HM : Hid (∀ a b x y, a ≤ b → vs[a]? = some x → vs[b]? = some y → x ≤ y) := fun a b x y hab hx hy => by
    rcases Nat.eq_or_lt_of_le hab with h1 | h1
    · subst h1; rw [hx] at hy; injection hy with hy; omega
    · obtain ⟨ha, ea⟩ := List.getElem?_eq_some_iff.1 hx
      obtain ⟨hb, eb⟩ := List.getElem?_eq_some_iff.1 hy
      have := List.pairwise_iff_getElem.1 hr a b ha hb h1
      omega
  clear hf hl hr
  go_enter Try.func32, Try.ntmps32
  go_wp2
  go_loopg [4, 6] n (fun kx s4 s6 wr => ∃ lo hi : Nat, s4 = .int .i64 lo ∧ s6 = .int .i64 hi ∧ lo ≤ hi ∧ hi ≤ n ∧ hi - lo ≤ kx ∧ Hid (Below w.heap.size w wr ∧ (∀ t x, t < lo → vs[t]? = some x → x < v) ∧ (∀ t x, hi ≤ t → vs[t]? = some x → v ≤ x)))
  case atStart => exact ⟨0, n, rfl, rfl, Nat.zero_le _, Nat.le_refl _, by omega, Below.refl _ _, fun t x ht => absurd ht (Nat.not_lt_zero _), fun t x h1 h2 => by have := (List.getElem?_eq_some_iff.1 h2).1; have := HL.out; omega⟩
  case round =>
    obtain ⟨lo, hi, rfl, rfl, hlh, hin, hgg, hH⟩ := hrel
    by_cases hlt : lo < hi
    · obtain ⟨u, hu⟩ : ∃ u, vs[(lo + hi) / 2]? = some u := ⟨_, List.getElem?_eq_getElem (by have := HL.out; omega)⟩
      have hc := HF.out wr ((lo + hi) / 2) u hH.out.1 hu
      rw [show (((lo + hi) / 2 : Nat) : Int) = ((lo : Int) + (hi : Int)) / 2 by omega] at hc
      have HU := Lib.hid hu
      have HC := Lib.hid hc
      have e0 := cmp_gt v u
      clear hu hc
      rcases hp : decide (u < v)
      · rw [hp] at e0
        have HP := Lib.hid (of_decide_eq_false hp)
        clear hp
        go_wp2_with (go_at_fn g; refine HC.out.mono ?_; rintro e w2 ⟨rfl, hb⟩; have L2 := Lib.hid (hH.out.1.trans (hb.mono hH.out.1.size)); clear hb)
        go_roundg ((lo + hi) / 2 - lo)
        case measure => omega
        case rel =>
          exact ⟨lo, (lo + hi) / 2, rfl, by rw [show ((lo : Int) + (hi : Int)) / 2 = (((lo + hi) / 2 : Nat) : Int) by omega], by omega, by omega, Nat.le_refl _, L2.out, hH.out.2.1, fun t x ht hx => by have := HM.out _ _ _ _ ht HU.out hx; have := HP.out; omega⟩
      · rw [hp] at e0
        have HP := Lib.hid (of_decide_eq_true hp)
        clear hp
        go_wp2_with (go_at_fn g; refine HC.out.mono ?_; rintro e w2 ⟨rfl, hb⟩; have L2 := Lib.hid (hH.out.1.trans (hb.mono hH.out.1.size)); clear hb)
        go_roundg (hi - ((lo + hi) / 2 + 1))
        case measure => omega
        case rel =>
          exact ⟨(lo + hi) / 2 + 1, hi, by rw [show ((lo : Int) + (hi : Int)) / 2 + 1 = (((lo + hi) / 2 + 1 : Nat) : Int) by omega], rfl, by omega, hin, Nat.le_refl _, L2.out, fun t x ht hx => by have := HM.out _ _ _ _ (show t ≤ (lo + hi) / 2 by omega) hx HU.out; have := HP.out; omega, hH.out.2.2⟩
    · obtain rfl : hi = lo := by omega
      have HK : Hid (atV vs v = hi) := atV_eq (by have := HL.out; omega) hH.out.2.1 hH.out.2.2
      by_cases hhn : hi < n
      · obtain ⟨u, hu⟩ : ∃ u, vs[hi]? = some u := ⟨_, List.getElem?_eq_getElem (by have := HL.out; omega)⟩
        have HC := Lib.hid (HF.out wr hi u hH.out.1 hu)
        have e0 := cmp_eq v u
        have HE : Hid (hasV vs v = decide (u = v)) := by
          show hasV _ _ = _
          unfold hasV
          rw [HK.out, hu]
          by_cases h : u = v <;> simp [h]
        have hkd : decide (hi < n) = true := decide_eq_true hhn
        have hkd2 : (hi : Int) < (n : Int) := by omega
        clear hu
        go_wp2_with (go_at_fn g; refine HC.out.mono ?_; rintro e w2 ⟨rfl, hb⟩; have L2 := Lib.hid (hH.out.1.trans (hb.mono hH.out.1.size)); clear hb)
        go_ret2
        exact ⟨by rw [HE.out, HK.out]; rfl, L2.out⟩
      · have HE : Hid (hasV vs v = false) := by
          show hasV _ _ = _
          unfold hasV
          rw [HK.out, List.getElem?_eq_none (by have := HL.out; omega)]
          rfl
        have hkd : decide (hi < n) = false := decide_eq_false hhn
        have hkd2 : ¬ (hi : Int) < (n : Int) := by omega
        go_wp2_with fail
        go_ret2
        exact ⟨by rw [HE.out, HK.out]; rfl, hH.out.1⟩
end Ded
end Go.Proofs.Ytndcflchdecofaa
