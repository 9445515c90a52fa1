/-
  WALKS OVER crc'S CALLS: New, asked, follow, Sum, Update, Join, Used; the document's own Sum; and what the statements ask first (big, live).
-/
import Derived.Test.YtedandbkdjmfhaaCrcOnce
import Derived.Deep.QuietTactic
import Derived.BigQuiet
namespace Go.Proofs.Ytedandbkdjmfhaa
open Go.RowKit
namespace Crc

theorem Tab.bump {w : World} {g : Nat} {n : Int} {made : Bool} (h : Tab w g n made) (m : Int) : Tab (w.setCell ⟨g, 3, none⟩ (.int .i64 m)) g m made := by
  obtain ⟨cs, hb, hs, c0, c1, c3, ht⟩ := h
  have hb : Blk w g cs := hb
  refine ⟨_, hb.set_ 3 (.int .i64 m), by simp [hs], ?_, ?_, ?_, fun hm i hi => ?_⟩
  · rw [Array.getElem?_setIfInBounds, if_neg (by omega)]; exact c0
  · rw [Array.getElem?_setIfInBounds, if_neg (by omega)]; exact c1
  · rw [Array.getElem?_setIfInBounds, if_pos rfl, if_pos (by omega)]
  · rw [Array.getElem?_setIfInBounds, if_neg (by omega)]; exact ht hm i hi
theorem Tab.used {w : World} {g : Nat} {n : Int} {made : Bool} (h : Tab w g n made) : w.cell? ⟨g, 3, none⟩ = some (.int .i64 n) ∧ w.frozen? ⟨g, 3, none⟩ = false := by
  obtain ⟨cs, hb, hs, c0, c1, c3, ht⟩ := h
  have hb : Blk w g cs := hb
  exact ⟨(hb.cell 3).trans c3, hb.frozen 3⟩
theorem Tab.done {w : World} {g : Nat} {n : Int} (h : Tab w g n true) : w.cell? ⟨g, 0, none⟩ = some (.int .u32 1) := by
  obtain ⟨cs, hb, hs, c0, c1, c3, ht⟩ := h
  have hb : Blk w g cs := hb
  exact (hb.cell 0).trans c0
theorem Tab.word {w : World} {g : Nat} {n : Int} (h : Tab w g n true) (y : BitVec 8) : w.cell? ⟨g, 4 + (u y).toNat, none⟩ = some (.int .u32 (v (shn 8 (y.setWidth 32)))) := by
  obtain ⟨cs, hb, hs, c0, c1, c3, ht⟩ := h
  have hb : Blk w g cs := hb
  have hy := y.isLt
  have e : (u y).toNat = y.toNat := by unfold u; omega
  rw [e, hb.cell, ht rfl y.toNat (by omega)]
  have e2 : BitVec.ofNat 32 y.toNat = y.setWidth 32 := by
    apply BitVec.eq_of_toNat_eq
    rw [BitVec.toNat_ofNat, BitVec.toNat_setWidth]
  rw [e2]

set_option maxRecDepth 100000 in
set_option maxHeartbeats 800000 in
theorem asked_any (g : Nat) (n : Int) (made : Bool) (w : World) (ht : Tab w g n made) (h0 : 0 ≤ n) (h1 : n ≤ 4611686018427387904) :
    Calls Try.prog 54 #[.pointer (some ⟨g, 0, none⟩)] w fun e w' => e = .returned (.pointer (some ⟨g, 0, none⟩)) ∧ Made g (n + 1) w w' := by
  have hmf : ∀ (fn : Fn) (first cap : Array Value) (w : World), (Instr.makeFunc fn first cap).run Try.prog w = .ok (.func fn first cap) w := fun _ _ _ _ => rfl
  obtain ⟨hc, hz⟩ := ht.used
  have hsum : (Op.intArith .add .i64 n 1).run Try.prog w = .ok (.int .i64 (n + 1)) w := by
    have e := IntWalk.i64_in (n + 1) (by omega)
    simp [go_sem, e]
  have hadd := run_call_add (P := Try.prog) Try.func62 (by kernel_rfl) (by kernel_rfl) (by kernel_rfl) .i64 (by kernel_rfl) (y := 1) (s := n + 1) hc hz hsum
  have hT := ht.bump (n + 1)
  clear hsum hc hz
  cases made
  · have hD := do_first g (n + 1) _ hT
    clear hT ht
    go_enter Try.func54, Try.ntmps54
    go_wp2_with (first | (go_at_call 59; refine hD.mono ?_; rintro e w' ⟨rfl, hM⟩; have HM := Lib.hid hM; clear hM hD) | (go_at_call 58; go_in))
    go_ret
    exact ⟨rfl, HM.out.1, ((Keep.refl g w).setCell (p := ⟨g, 3, none⟩) rfl _).trans HM.out.2⟩
  · have hd := hT.done
    have HT := Lib.hid hT
    clear hT ht
    go_enter Try.func54, Try.ntmps54
    go_wp2_with (first | (go_at_call 59; refine (do_done _ _ _ hd).mono ?_; rintro e w' ⟨rfl, rfl⟩) | (go_at_call 58; go_in))
    go_ret
    exact ⟨rfl, HT.out, (Keep.refl g w).setCell (p := ⟨g, 3, none⟩) rfl _⟩

/-- A table's cells when it is new. -/
def tabZero : Array Value := #[.int .u32 0, .int .i32 0, .int .u32 0, .int .i64 0] ++ Array.replicate 256 (.int .u32 0)
theorem zeroTab (w : World) : (zeroValue 107).run Try.prog w = .ok (.agg tabZero) w := by kernel_rfl
set_option maxRecDepth 100000 in
set_option maxHeartbeats 800000 in
theorem new_any (w : World) :
    Calls Try.prog 34 #[] w fun e w' => e = .returned (.pointer (some ⟨w.heap.size, 0, none⟩)) ∧ Tab w' w.heap.size 0 false ∧ Keep w.heap.size w w' := by
  have hzt := zeroTab
  have T : Hid (Tab (w.alloc (.cells tabZero 107)) w.heap.size 0 false) :=
    ⟨tabZero, heap_alloc_new w _, rfl, rfl, rfl, rfl, fun h => by cases h⟩
  go_enter Try.func34, Try.ntmps34
  go_wp2
  go_ret
  exact ⟨rfl, T.out, (Keep.refl _ _).alloc _⟩

/-- A slice of byte slices reads as the pieces ls, outside block g. -/
def Pieces (w : World) (g : Nat) (A : Option Addr) (n : Nat) (ls : List (List (BitVec 8))) : Prop :=
  ls.length = n ∧ n ≤ 140737488351232 ∧ (0 < n → ∃ b o, A = some ⟨b, o, none⟩ ∧ b ≠ g ∧ ∀ i l, ls[i]? = some l → ∃ a m c, w.cell? ⟨b, o + i, none⟩ = some (.slice a m c) ∧ Bytes w g a m l)
theorem Pieces.keep {w w' : World} {g : Nat} {A : Option Addr} {n : Nat} {ls : List (List (BitVec 8))} (h : Pieces w g A n ls) (k : Keep g w w') : Pieces w' g A n ls := by
  refine ⟨h.1, h.2.1, fun h0 => ?_⟩
  obtain ⟨b, o, e, hx, hc⟩ := h.2.2 h0
  refine ⟨b, o, e, hx, fun i l hl => ?_⟩
  obtain ⟨a, m, c, h1, h2⟩ := hc i l hl
  exact ⟨a, m, c, k.cell h1 hx, h2.keep k⟩

set_option maxRecDepth 100000 in
set_option maxHeartbeats 800000 in
theorem follow_any (g : Nat) (q : Int) (c : BitVec 32) (A : Option Addr) (n cap : Nat) (l : List (BitVec 8)) (w : World) (ht : Tab w g q true) (h : Bytes w g A n l) :
    Calls Try.prog 55 #[.pointer (some ⟨g, 0, none⟩), .int .u32 (v c), .slice A n cap] w fun e w' => e = .returned (.int .u32 (v (goes c l))) ∧ w = w' := by
  have hc := h.at_
  have hT := ht.word
  obtain ⟨hl, hm, -⟩ := h
  have N1 := Lib.hid (not_v c)
  have hsg : IntKind.u32.signed = false := rfl
  have hmx : IntKind.u32.max = 4294967295 := by decide
  have G : Hid (goes c l = ~~~ run (~~~ c) (l.take n)) := by show _ = _; rw [List.take_of_length_le (by omega)]; rfl
  have HT := Lib.hid hT
  clear hT ht
  go_enter Try.func55, Try.ntmps55
  go_wp2
  go_loop [1, 13] (fun x i => ∃ k : Nat, k ≤ n ∧ i = .int .i64 k ∧ x = .int .u32 (v (run (~~~ c) (l.take k)))) (fun _ i => n - (intOf i).toNat)
  case atStart => exact ⟨0, by omega, rfl, by rw [N1.out]; rfl⟩
  case round =>
    obtain ⟨k, hk, rfl, rfl⟩ := hrel
    by_cases hlt : k < n
    · obtain ⟨xb, xo, rfl, hxg, hcell⟩ := hc (by omega)
      have hk' : k < l.length := by omega
      have h2 := hcell k _ (List.getElem?_eq_getElem hk')
      have R : Hid (run (~~~ c) (l.take (k + 1)) = step (run (~~~ c) (l.take k)) l[k]) := by
        show _ = _
        rw [List.take_succ_eq_append_getElem hk', run_append]; rfl
      have HL := Lib.hid hl
      clear hcell hl
      generalize run (~~~ c) (l.take k) = r at *
      generalize hb : l[k] = b at *
      clear hb
      have h3 := HT.out (r.setWidth 8 ^^^ b)
      have hu0 := u_nonneg (r.setWidth 8 ^^^ b)
      have hu1 := u_lt (r.setWidth 8 ^^^ b)
      have X : Hid (bits .xor .u32 (v r / 256) (v (shn 8 ((r.setWidth 8 ^^^ b).setWidth 32))) = v (step r b)) := by
        show _ = _; rw [shr8_v, xor_v, step_table]
      have x1 := low8_v' r
      have x2 := xor_u (r.setWidth 8) b
      generalize r.setWidth 8 ^^^ b = y at *
      generalize r.setWidth 8 = r8 at *
      generalize shn 8 (y.setWidth 32) = z at *
      go_wp2
      go_round
      case rel => exact ⟨k + 1, by omega, by go_num, by rw [R.out, X.out]⟩
      case measure => simp [intOf]; omega
    · have hkn : k = n := by omega
      have HK := Lib.hid hkn
      clear hkn
      have N2 := Lib.hid (not_v (run (~~~ c) (l.take k)))
      go_wp2
      go_ret
      exact ⟨ret_u32 (by rw [N2.out, G.out, HK.out]), rfl⟩

set_option maxRecDepth 100000 in
set_option maxHeartbeats 800000 in
/-- Sum: of pieces outside the table's block. -/
theorem sum_any (g : Nat) (q : Int) (made : Bool) (A : Option Addr) (n cap : Nat) (ls : List (List (BitVec 8))) (w : World) (ht : Tab w g q made) (h0 : 0 ≤ q) (h1 : q ≤ 4611686018427387904) (h : Pieces w g A n ls) :
    Calls Try.prog 44 #[.pointer (some ⟨g, 0, none⟩), .slice A n cap] w fun e w' => e = .returned (.int .u32 (v (sums ls))) ∧ Made g (q + 1) w w' := by
  have hA := asked_any g q made w ht h0 h1
  have HP := Lib.hid h
  have hm := h.2.1
  clear h ht h0 h1
  have V0 := Lib.hid v_zero
  go_enter Try.func44, Try.ntmps44
  go_wp2_with (go_at_call 54; refine hA.mono ?_; rintro e w1 ⟨rfl, hM⟩; have HM := Lib.hid hM; clear hM hA)
  have hP := HP.out.keep HM.out.2
  have hl := hP.1
  have hc := hP.2.2
  have HT := Lib.hid HM.out.1
  clear hP
  go_loop [5, 12] (fun x i => ∃ k : Nat, k ≤ n ∧ i = .int .i64 k ∧ x = .int .u32 (v (sums (ls.take k)))) (fun _ i => n - (intOf i).toNat)
  case atStart => exact ⟨0, by omega, rfl, by rw [← V0.out]; rfl⟩
  case round =>
    obtain ⟨k, hk, rfl, rfl⟩ := hrel
    by_cases hlt : k < n
    · obtain ⟨xb, xo, rfl, hxg, hcell⟩ := hc (by omega)
      have hk' : k < ls.length := by omega
      obtain ⟨a, m, c, h2, hB⟩ := hcell k _ (List.getElem?_eq_getElem hk')
      have R : Hid (sums (ls.take (k + 1)) = goes (sums (ls.take k)) ls[k]) := by
        show _ = _
        rw [List.take_succ_eq_append_getElem hk']; unfold sums; rw [List.foldl_append]; rfl
      have HB := Lib.hid hB
      have HL := Lib.hid hl
      clear hcell hl hB
      generalize ls[k] = l at *
      go_wp2_with (go_at_call 55; refine (follow_any _ _ _ _ _ _ _ _ HT.out HB.out).mono ?_; rintro e w' ⟨rfl, rfl⟩)
      go_round
      case rel => exact ⟨k + 1, by omega, by go_num, by rw [R.out]⟩
      case measure => simp [intOf]; omega
    · have hkn : ls.take k = ls := List.take_of_length_le (by omega)
      have HK := Lib.hid hkn
      clear hkn
      go_wp2
      go_ret
      exact ⟨ret_u32 (by rw [HK.out]), HM.out⟩





/-- What the statements' own test reckons: all pieces' lengths and one each, as an int goes round. -/
def bulk (ls : List (List (BitVec 8))) : Int := ls.foldl (fun z l => wrap64 (z + ((l.length : Int) + 1))) 0
end Crc
end Go.Proofs.Ytedandbkdjmfhaa
