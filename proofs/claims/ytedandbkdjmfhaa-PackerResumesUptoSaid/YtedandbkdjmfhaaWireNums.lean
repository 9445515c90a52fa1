/-
  wire: HOW NUMBERS ARE WRITTEN (put, Put, Nums, Vec) AND MEASURED (length).
-/
import Derived.Test.YtedandbkdjmfhaaMem
import Derived.Test.YtedandbkdjmfhaaWireMath
import Derived.LoopTactic
import Derived.Deep.LoopGhost
namespace Go.Proofs.Ytedandbkdjmfhaa
open Go.RowKit Mem
namespace Wire

/-- The byte at the beginning of a longer number. -/
theorem or128 (n : Nat) : bits .or .u8 ((n : Int) % 256) 128 = u (BitVec.ofNat 8 (n % 128 + 128)) := by
  have h := u8_or_nat (n % 256) 128 (by omega) (by omega)
  have e : (((n % 256 : Nat) : Int)) = (n : Int) % 256 := by omega
  rw [e] at h
  have h : bits .or .u8 ((n : Int) % 256) 128 = ((n % 256 ||| 128 : Nat) : Int) := h
  rw [h]
  have h2 : n % 256 ||| 128 = n % 128 + 128 := by
    by_cases h3 : n % 256 < 128
    · have := nat_join 7 128 (n % 256) (by decide) (by simpa using h3)
      rw [Nat.or_comm, this]; omega
    · have h4 : n % 256 = 128 + n % 128 := by omega
      have := nat_join 7 128 (n % 128) (by decide) (by have : n % 128 < 128 := Nat.mod_lt _ (by omega); simpa using this)
      rw [h4, ← this, Nat.or_comm, ← Nat.or_assoc, Nat.or_self, this]; omega
  rw [h2]
  unfold u
  rw [BitVec.toNat_ofNat]
  omega
theorem low256 (n : Nat) (h : n < 256) : (n : Int) = u (BitVec.ofNat 8 n) := by
  unfold u
  rw [BitVec.toNat_ofNat]
  omega

/-- What a call gave: a row of the call's own. -/
def Gave {α : Type} (f : α → Value) (e : TypeId) (base : Nat) (w : World) (l : List α) (en : Ending) (w' : World) : Prop :=
  ∃ A k c, en = .returned (.slice A k c) ∧ Owns f e base w' (.slice A k c) k l ∧ Below base w w'

/-- A one-cell row that was just built. -/
theorem row_one {α : Type} (f : α → Value) (w : World) (x : α) (t : TypeId) (v : Value) (hv : v = f x) : Row f (w.alloc (.cells #[v] t)) (some ⟨w.heap.size, 0, none⟩) 1 1 [x] := by
  subst hv
  refine ⟨rfl, by omega, by omega, fun _ => ⟨_, _, rfl, by simp, fun i y hi => ?_⟩⟩
  have : i = 0 := by
    rcases i with _ | i
    · rfl
    · simp at hi
  subst this
  obtain rfl : x = y := by simpa using hi
  have h := heap_alloc_new w (.cells #[f x] t)
  simp only [World.cell?, h]
  rfl

set_option maxRecDepth 100000 in
set_option maxHeartbeats 800000 in
theorem put_any (base n : Nat) (hn : n < 18446744073709551616) (A : Option Addr) (k c : Nat) (l : List B8) (w : World) (hs : Owns cb 5 base w (.slice A k c) k l) (hb : base ≤ w.heap.size) (hk : k ≤ 200000000000000) :
    Calls Try.prog 46 #[.slice A k c, .int .u64 n] w (Gave cb 5 base w (l ++ enc n)) := by
  have h10 := enc_len_le hn
  have HS := Lib.hid hs
  have hK : Hid (k + (enc n).length ≤ 200000000000100) := by show _ ≤ _; omega
  clear hs hk h10
  have HN := Lib.hid hn
  clear hn
  go_enter Try.func46, Try.ntmps46
  go_wp2
  go_loopw [0, 1] (fun s i wr => ∃ (B : Option Addr) (j d m : Nat) (r : List B8), s = .slice B j d ∧ i = .int .u64 m ∧ Hid (m < 18446744073709551616) ∧ Hid (Owns cb 5 base wr (.slice B j d) j r ∧ Below base w wr ∧ r ++ enc m = l ++ enc n ∧ j + (enc m).length = k + (enc n).length)) (fun _ i _ => (intOf i).toNat)
  case atStart => exact ⟨A, k, c, n, l, rfl, rfl, HN, HS.out, Below.refl _ _, rfl, rfl⟩
  case round =>
    obtain ⟨B, j, d, m, r, rfl, rfl, hm, hO⟩ := hrel
    have hO' := hO.out.1
    have hj : Hid (j + (enc m).length ≤ 200000000000100) := by have := hO.out.2.2.2; have := hK.out; show _ ≤ _; omega
    have e1 := enc_pos m
    have hj1 : j + 1 ≤ 200000000000200 := by have := hj.out; omega
    have HO := Lib.hid hO'
    have HB := Lib.hid (Nat.le_trans hb hO.out.2.1.size)
    clear hO' e1
    by_cases hlt : m < 128
    · have E := Lib.hid (low256 m (by omega))
      have X := Lib.hid (enc_lt hlt)
      go_wp2_with (at_builtin
                   refine wpList_append_row cb_one Try.underlying27 info_byte rfl rfl (.tmp 15) (.tmp 18) rfl rfl base (.slice B j d) j r rfl (HO.out.alloc _) _ 1 1 [BitVec.ofNat 8 m] rfl (row_one cb wr _ _ _ (congrArg (Value.int .u8) E.out)) (by omega) (by omega) (by have := HB.out; simp; omega) ?_
                   intro A' c' w' hown' hb')
      go_ret
      refine ⟨_, _, _, rfl, ?_, ?_⟩
      · rw [← hO.out.2.2.1, X.out]; exact hown'
      · exact hO.out.2.1.trans (((Below.refl base wr).alloc HB.out _).trans hb')
    · have E := Lib.hid (or128 m)
      have X := Lib.hid (enc_ge (n := m) (by omega))
      go_wp2_with (at_builtin
                   refine wpList_append_row cb_one Try.underlying27 info_byte rfl rfl (.tmp 9) (.tmp 13) rfl rfl base (.slice B j d) j r rfl (HO.out.alloc _) _ 1 1 [BitVec.ofNat 8 (m % 128 + 128)] rfl (row_one cb wr _ _ _ (congrArg (Value.int .u8) E.out)) (by omega) (by omega) (by have := HB.out; simp; omega) ?_
                   intro A' c' w' hown' hb'
                   have HW := Lib.hid hown'
                   have HB' := Lib.hid hb'
                   clear hown' hb')
      go_roundw
      case rel =>
        refine ⟨A', j + 1, c', m / 128, r ++ [BitVec.ofNat 8 (m % 128 + 128)], rfl, ?_, ?_, HW.out, ?_, ?_, ?_⟩
        · first | rfl | go_num
        · have := hm.out; show _ < _; omega
        · exact hO.out.2.1.trans (((Below.refl base wr).alloc HB.out _).trans HB'.out)
        · rw [List.append_assoc, ← hO.out.2.2.1, X.out]; rfl
        · rw [← hO.out.2.2.2, X.out]; simp; omega
      case measure => simp [intOf]; omega

set_option maxRecDepth 100000 in
theorem putN_any (n : Nat) (hn : n < 18446744073709551616) (w : World) :
    Calls Try.prog 47 #[.int .u64 n] w (Gave cb 5 w.heap.size w (enc n)) := by
  have H := Lib.hid (put_any w.heap.size n hn none 0 0 [] w (Owns.nil _ _ _ _) (Nat.le_refl _) (by omega))
  clear hn
  go_enter Try.func47, Try.ntmps47
  go_wp2_with (go_at_call 46; refine H.out.mono ?_; rintro e w' ⟨A, k, c, rfl, h1, h2⟩; have H1 := Lib.hid h1; have H2 := Lib.hid h2; clear h1 h2)
  go_ret
  exact ⟨A, k, c, rfl, H1.out, H2.out⟩

theorem scan_at (l : List B8) (i : Nat) (x : B8) (h : l[i]? = some x) : scan i (l.drop i) = if (i = 9 ∧ 1 < x.toNat) ∨ (0 < i ∧ x.toNat = 0) then (0, 21) else if x.toNat < 128 then (i + 1, 0) else scan (i + 1) (l.drop (i + 1)) := by
  obtain ⟨hi, hx⟩ := List.getElem?_eq_some_iff.1 h
  rw [List.drop_eq_getElem_cons hi, hx, scan]

theorem leaf1 {l : List B8} {i : Nat} {x : B8} {r : Nat × Nat} (h : scan i (l.drop i) = if (i = 9 ∧ 1 < x.toNat) ∨ (0 < i ∧ x.toNat = 0) then (0, 21) else if x.toNat < 128 then (i + 1, 0) else scan (i + 1) (l.drop (i + 1))) (hr : scan i (l.drop i) = r)
    (hc : (i = 9 ∧ 1 < x.toNat) ∨ (0 < i ∧ x.toNat = 0)) : r = (0, 21) := by rw [← hr, h, if_pos hc]
theorem leaf2 {l : List B8} {i : Nat} {x : B8} {r : Nat × Nat} (h : scan i (l.drop i) = if (i = 9 ∧ 1 < x.toNat) ∨ (0 < i ∧ x.toNat = 0) then (0, 21) else if x.toNat < 128 then (i + 1, 0) else scan (i + 1) (l.drop (i + 1))) (hr : scan i (l.drop i) = r)
    (hc : ¬ ((i = 9 ∧ 1 < x.toNat) ∨ (0 < i ∧ x.toNat = 0))) (hx : x.toNat < 128) : r = (i + 1, 0) := by rw [← hr, h, if_neg hc, if_pos hx]
theorem leaf3 {l : List B8} {i : Nat} {x : B8} {r : Nat × Nat} (h : scan i (l.drop i) = if (i = 9 ∧ 1 < x.toNat) ∨ (0 < i ∧ x.toNat = 0) then (0, 21) else if x.toNat < 128 then (i + 1, 0) else scan (i + 1) (l.drop (i + 1))) (hr : scan i (l.drop i) = r)
    (hc : ¬ ((i = 9 ∧ 1 < x.toNat) ∨ (0 < i ∧ x.toNat = 0))) (hx : ¬ x.toNat < 128) : scan (i + 1) (l.drop (i + 1)) = r := by rw [← hr, h, if_neg hc, if_neg hx]
/-- What length tells. -/
def Told (l : List B8) (w : World) (e : Ending) (w' : World) : Prop := e = .returned (.tuple #[.int .i64 ((scan 0 l).1 : Int), .int .i64 ((scan 0 l).2 : Int)]) ∧ w = w'
theorem told_of {l : List B8} {w : World} {a b : Nat} {x y : Int} (h : scan 0 l = (a, b)) (hx : x = a) (hy : y = b) : Told l w (.returned (.tuple #[.int .i64 x, .int .i64 y])) w := by
  unfold Told; rw [h, hx, hy]; exact ⟨rfl, rfl⟩


set_option maxRecDepth 100000 in
set_option maxHeartbeats 800000 in
theorem length_any (A : Option Addr) (n c : Nat) (l : List B8) (w : World) (h : Row cb w A n c l) :
    Calls Try.prog 61 #[.slice A n c] w (Told l w) := by
  have HR := Lib.hid h
  have hn := h.big
  clear h
  go_enter Try.func61, Try.ntmps61
  go_wp2
  go_loop [8] (fun i => ∃ k : Nat, k ≤ n ∧ i = .int .i64 k ∧ Hid (scan k (l.drop k) = scan 0 l)) (fun i => n - (intOf i).toNat)
  case atStart => exact ⟨0, by omega, rfl, rfl⟩
  case round =>
    obtain ⟨k, hk, rfl, hS⟩ := hrel
    by_cases hlt : k < n
    · obtain ⟨x, hx⟩ := HR.out.get hlt
      obtain ⟨b, o, rfl, hcell⟩ := HR.out.cell hx
      have S := Lib.hid (scan_at l k x hx)
      clear hx
      have hx0 := u_nonneg x
      have hx1 := u_lt x
      have hcell' : w.cell? ⟨b, o + k, none⟩ = some (.int .u8 (u x)) := hcell
      have U : Hid (u x = (x.toNat : Int)) := rfl
      clear hcell
      go_wp2
      all_goals first
        | (go_ret2
           have hU := U.out
           (try have hz := eq_of_beq (by assumption : (u x == 0) = true))
           (try have hz := ne_of_beq_false (by assumption : (u x == 0) = false))
           first
             | exact told_of (leaf1 S.out hS.out (by omega)) (by omega) (by omega)
             | exact told_of (leaf2 S.out hS.out (by omega) (by omega)) (by omega) (by omega))
        | (go_round
           case rel =>
             have hU := U.out
             (try have hz := ne_of_beq_false (by assumption : (u x == 0) = false))
             exact ⟨k + 1, by omega, by go_num, leaf3 S.out hS.out (by omega) (by omega)⟩
           case measure => simp [intOf]; omega)
    · have hE : Hid (scan 0 l = (0, 20)) := by
        have e : l.drop k = [] := List.drop_of_length_le (by have := HR.out.len; omega)
        show _ = _
        rw [← hS.out, e]; rfl
      go_wp2
      go_ret2
      exact told_of hE.out rfl rfl
end Wire
end Go.Proofs.Ytedandbkdjmfhaa
