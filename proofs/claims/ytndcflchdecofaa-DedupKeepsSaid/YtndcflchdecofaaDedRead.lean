/-
  WALKS THAT ONLY READ: numbers that rise, sort.Find, what may be, where one and an answer stand.
-/
import Derived.Test.YtndcflchdecofaaDedMem
import Derived.Shelf.Abstract
namespace Go.Proofs.Ytndcflchdecofaa
open Go.RowKit Mem Box
namespace Ded

/-- A function that tells the numbers of a list. -/
def NumF (g : Nat) (lb : Array Value) (vs : List Int) (w : World) : Prop :=
  ∀ (W : World) (i : Nat) (v : Int), Below w.heap.size w W → vs[i]? = some v → Calls Try.prog g (#[.int .i64 i] ++ lb) W fun e w' => e = .returned (.int .i64 v) ∧ Below W.heap.size W w'

set_option maxRecDepth 100000 in
set_option maxHeartbeats 3200000 in
theorem rise_any {n : Nat} {least : Int} {vs : List Int} {w : World} (g : Nat) (lb : Array Value) (eg : ∀ args w, (callFunc g args).run Try.prog w = .ok (.enter g args) w) (hl : vs.length = n) (hn : n ≤ 140737488351232) (hf : NumF g lb vs w) :
    Calls Try.prog 24 #[.int .i64 n, .int .i64 least, .func (.func g) #[] lb] w fun e w' => e = .returned (.bool (risesB least vs)) ∧ Below w.heap.size w w' := by
  have HF := Lib.hid hf
  have HL := Lib.hid hl
  clear hf hl
  go_enter Try.func24, Try.ntmps24
  go_wp2
  go_loopw [7, 9] (fun _ i wr => ∃ k : Nat, i = .int .i64 k ∧ k ≤ n ∧ Hid (Below w.heap.size w wr ∧ risesB least (vs.take k) = true)) (fun _ i _ => n - (intOf i).toNat)
  case atStart => exact ⟨0, rfl, by omega, Below.refl _ _, rfl⟩
  case round =>
    obtain ⟨k, rfl, hk, hH⟩ := hrel
    by_cases hlt : k < n
    · obtain ⟨v, hv⟩ : ∃ v, vs[k]? = some v := ⟨_, List.getElem?_eq_getElem (by have := HL.out; omega)⟩
      have HV := Lib.hid hv
      have HC := Lib.hid (fun W (hW : Below w.heap.size w W) => HF.out W k v hW hv)
      have hk0 : (0 : Int) ≤ (k : Int) := by omega
      have hkn : (k : Int) < (n : Int) := by omega
      clear hv
      rcases e1 : decide (v < least)
      · have E1 := Lib.hid (of_decide_eq_false e1)
        rcases Nat.eq_zero_or_pos k with h0 | h0
        · subst h0
          have HR : Hid (risesB least (vs.take (0 + 1)) = true) := rises_next hH.out.2 HV.out (by have := E1.out; omega) (.inl rfl)
          go_wp2_with (go_at_fn g; refine (HC.out _ hH.out.1).mono ?_; rintro e w2 ⟨rfl, hb⟩; have L2 := Lib.hid (hH.out.1.trans (hb.mono hH.out.1.size)); clear hb)
          go_roundw
          case rel => exact ⟨0 + 1, by go_num, by omega, L2.out, HR.out⟩
          case measure => simp [intOf]; omega
        · obtain ⟨u, hu⟩ : ∃ u, vs[k - 1]? = some u := ⟨_, List.getElem?_eq_getElem (by have := HL.out; omega)⟩
          have HU := Lib.hid hu
          have HC2 := Lib.hid (show ∀ W, Below w.heap.size w W → Calls Try.prog g (#[.int .i64 ((k : Int) - 1)] ++ lb) W fun e w' => e = .returned (.int .i64 u) ∧ Below W.heap.size W w' from fun W hW => by
            have := HF.out W (k - 1) u hW hu
            rwa [show ((k - 1 : Nat) : Int) = (k : Int) - 1 by omega] at this)
          have hp : decide ((k : Int) > 0) = true := decide_eq_true (by omega)
          have hp2 : (0 : Int) < (k : Int) := by omega
          clear hu
          rcases e2 : decide (v ≤ u)
          · have HR : Hid (risesB least (vs.take (k + 1)) = true) := rises_next hH.out.2 HV.out (by have := E1.out; omega) (.inr ⟨u, HU.out, by have := of_decide_eq_false e2; omega⟩)
            go_wp2_with (go_at_fn g; first | (refine (HC2.out _ (by first | exact L4.out | exact L3.out)).mono ?_; rintro e w5 ⟨rfl, hb⟩; have L5 := Lib.hid (L3.out.trans (hb.mono L3.out.size)); clear hb) | (refine (HC.out _ (by first | exact L2.out | exact hH.out.1)).mono ?_; rintro e w3 ⟨rfl, hb⟩; first | (have L3 := Lib.hid (L2.out.trans (hb.mono L2.out.size)); clear hb) | (have L2 := Lib.hid (hH.out.1.trans (hb.mono hH.out.1.size)); clear hb)))
            go_roundw
            case rel => exact ⟨k + 1, by go_num, by omega, L5.out, HR.out⟩
            case measure => simp [intOf]; omega
          · have HR : Hid (risesB least vs = false) := rises_not HV.out (.inr ⟨h0, u, HU.out, of_decide_eq_true e2⟩)
            go_wp2_with (go_at_fn g; first | (refine (HC2.out _ (by first | exact L4.out | exact L3.out)).mono ?_; rintro e w5 ⟨rfl, hb⟩; have L5 := Lib.hid (L3.out.trans (hb.mono L3.out.size)); clear hb) | (refine (HC.out _ (by first | exact L2.out | exact hH.out.1)).mono ?_; rintro e w3 ⟨rfl, hb⟩; first | (have L3 := Lib.hid (L2.out.trans (hb.mono L2.out.size)); clear hb) | (have L2 := Lib.hid (hH.out.1.trans (hb.mono hH.out.1.size)); clear hb)))
            go_ret
            exact ⟨by rw [HR.out]; rfl, L5.out⟩
      · have HR : Hid (risesB least vs = false) := rises_not HV.out (.inl (of_decide_eq_true e1))
        go_wp2_with (go_at_fn g; refine (HC.out _ hH.out.1).mono ?_; rintro e w2 ⟨rfl, hb⟩; have L2 := Lib.hid (hH.out.1.trans (hb.mono hH.out.1.size)); clear hb)
        go_ret
        exact ⟨by rw [HR.out]; rfl, L2.out⟩
    · have HR : Hid (risesB least vs = true) := by
        have := hH.out.2
        rwa [List.take_of_length_le (by have := HL.out; omega)] at this
      go_wp2_with fail
      go_ret
      exact ⟨by rw [HR.out]; rfl, hH.out.1⟩
end Ded
end Go.Proofs.Ytndcflchdecofaa
