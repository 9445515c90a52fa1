/-
  WALKS OVER zone'S AND THE DOCUMENT'S COUNTS of zones that are open, and active.
-/
import Derived.Test.YtnnphpfobdcmbaaZonRefA
import Derived.Test.YtnnphpfobdcmbaaZonOpen
namespace Go.Proofs.Ytnnphpfobdcmbaa
open Go.RowKit Mem
namespace Zon

def openB (z : Zn) : Bool := z.st == 1 || z.st == 2
def actB (z : Zn) : Bool := openB z || z.st == 3
def cntO (l : List Zv) : Nat := l.countP fun x => openB x.z
def cntA (l : List Zv) : Nat := l.countP fun x => actB x.z
theorem cnt_le (l : List Zv) : cntO l ≤ cntA l := List.countP_mono_left fun x _ h => by unfold actB; rw [h]; rfl
theorem cntO_step {l : List Zv} {k : Nat} {x : Zv} (hx : l[k]? = some x) : cntO (l.take (k + 1)) = cntO (l.take k) + (bif openB x.z then 1 else 0) := by
  unfold cntO
  rw [List.take_add_one, hx, Option.toList_some, List.countP_append, List.countP_cons, List.countP_nil]
  cases openB x.z <;> rfl
theorem cntA_step {l : List Zv} {k : Nat} {x : Zv} (hx : l[k]? = some x) : cntA (l.take (k + 1)) = cntA (l.take k) + (bif actB x.z then 1 else 0) := by
  unfold cntA
  rw [List.take_add_one, hx, Option.toList_some, List.countP_append, List.countP_cons, List.countP_nil]
  cases actB x.z <;> rfl
theorem cntO_le (l : List Zv) (k : Nat) : cntO (l.take k) ≤ k := Nat.le_trans List.countP_le_length (by simp; omega)
theorem cntA_le (l : List Zv) (k : Nat) : cntA (l.take k) ≤ k := Nat.le_trans List.countP_le_length (by simp; omega)

set_option maxRecDepth 100000 in
theorem isOpen_any (z : Zn) (D : Option Addr) (c : Nat) (w : World) :
    Calls Try.prog 47 #[zv z D c] w fun e w' => e = .returned (.bool (openB z)) ∧ Below w.heap.size w w' := by
  have L1 := Lib.hid ((Below.refl w.heap.size w).alloc (Nat.le_refl _) (.cells #[.int .i64 z.st, .int .i64 z.fc, .slice D z.data.length c] 46))
  unfold zv openB
  rcases e1 : (z.st == 1)
  all_goals
    go_enter Try.func47, Try.ntmps47
    go_wp2_with fail
    go_ret
    exact ⟨rfl, L1.out⟩

set_option maxRecDepth 100000 in
theorem isActive_any (z : Zn) (D : Option Addr) (c : Nat) (w : World) :
    Calls Try.prog 48 #[zv z D c] w fun e w' => e = .returned (.bool (actB z)) ∧ Below w.heap.size w w' := by
  have L1 := Lib.hid ((Below.refl w.heap.size w).alloc (Nat.le_refl _) (.cells #[.int .i64 z.st, .int .i64 z.fc, .slice D z.data.length c] 46))
  have B1 := Lib.hid (Cells.new w #[.int .i64 z.st, .int .i64 z.fc, .slice D z.data.length c] 46)
  have HO := fun w => Lib.hid (isOpen_any z D c w)
  unfold zv at *
  unfold actB
  rcases e1 : openB z
  all_goals
    rw [e1] at HO
    go_enter Try.func48, Try.ntmps48
    go_wp2_with fail
    generalize w.alloc (.cells #[.int .i64 z.st, .int .i64 z.fc, .slice D z.data.length c] 46) = w1 at *
    refine (HO w1).out.mono ?_
    rintro e w2 ⟨rfl, hb2⟩
    have L2 := Lib.hid (L1.out.trans (hb2.mono L1.out.size))
    have c0 := (Cells.below B1.out hb2).cell 0
    simp at c0
    clear hb2
    go_wp2_with fail
    go_ret
    exact ⟨rfl, L2.out⟩

set_option maxRecDepth 100000 in
set_option maxHeartbeats 1600000 in
theorem count_any {A : Option Addr} {n c : Nat} {xs : List Zv} {w : World} (h : RowS cellsZ 3 w A n c xs) :
    Calls Try.prog 73 #[.slice A n c] w fun e w' => e = .returned (.tuple #[.int .i64 (cntO xs : Int), .int .i64 (cntA xs : Int)]) ∧ Below w.heap.size w w' := by
  have HR := Lib.hid h
  have hbig := h.big
  clear h
  go_enter Try.func73, Try.ntmps73
  go_wp2_with fail
  go_loopw [2, 3, 8] (fun x y i wr => ∃ k p q : Nat, i = .int .i64 k ∧ x = .int .i64 p ∧ y = .int .i64 q ∧ k ≤ n ∧ p ≤ k ∧ q ≤ k ∧ Hid (cntO (xs.take k) = p ∧ cntA (xs.take k) = q ∧ Below w.heap.size w wr)) (fun _ _ i _ => n - (intOf i).toNat)
  case atStart => exact ⟨0, 0, 0, rfl, rfl, rfl, by omega, by omega, by omega, rfl, rfl, Below.refl _ _⟩
  case round =>
    obtain ⟨k, p, q, rfl, rfl, rfl, hk, hp, hq, hH⟩ := hrel
    by_cases hlt : k < n
    · obtain ⟨x, hx⟩ := HR.out.get hlt
      obtain ⟨b, o, rfl, hb, hc⟩ := HR.out.elem hx
      have hO := Lib.hid (cntO_step hx)
      have hA := Lib.hid (cntA_step hx)
      have c0 : wr.cell? ⟨b, o + k * 3, none⟩ = some (.int .i64 x.z.st) := hc wr (hH.out.2.2.block b hb) 0 _ rfl
      have c1 : wr.cell? ⟨b, o + k * 3 + 1, none⟩ = some (.int .i64 x.z.fc) := hc wr (hH.out.2.2.block b hb) 1 _ rfl
      have c2 : wr.cell? ⟨b, o + k * 3 + 2, none⟩ = some (.slice x.D x.z.data.length x.c) := hc wr (hH.out.2.2.block b hb) 2 _ rfl
      have hk0 : (0 : Int) ≤ (k : Int) := by omega
      have hk1 : (k : Int) < (n : Int) := by omega
      have LN := Lib.hid (hH.out.2.2.alloc hH.out.2.2.size (.cells #[.int .i64 x.z.st, .int .i64 x.z.fc, .slice x.D x.z.data.length x.c] 46))
      clear hc hx
      rcases e1 : (x.z.st == 1)
      · rcases e2 : (x.z.st == 2)
        · rcases e3 : (x.z.st == 3)
          · have hof : openB x.z = false := by unfold openB; rw [e1, e2]; rfl
            have haf : actB x.z = false := by unfold actB; rw [hof, e3]; rfl
            go_wp2_with fail
            go_roundw
            case rel => exact ⟨k + 1, p, q, by go_num, rfl, rfl, by omega, by omega, by omega, by rw [hO.out, hof, hH.out.1]; rfl, by rw [hA.out, haf, hH.out.2.1]; rfl, LN.out⟩
            case measure => simp [intOf]; omega
          · have hof : openB x.z = false := by unfold openB; rw [e1, e2]; rfl
            have haf : actB x.z = true := by unfold actB; rw [hof, e3]; rfl
            go_wp2_with fail
            go_roundw
            case rel => exact ⟨k + 1, p, q + 1, by go_num, rfl, by go_num, by omega, by omega, by omega, by rw [hO.out, hof, hH.out.1]; rfl, by rw [hA.out, haf, hH.out.2.1]; rfl, LN.out⟩
            case measure => simp [intOf]; omega
        · have hof : openB x.z = true := by unfold openB; rw [e1, e2]; rfl
          have haf : actB x.z = true := by unfold actB; rw [hof]; rfl
          go_wp2_with fail
          go_roundw
          case rel => exact ⟨k + 1, p + 1, q + 1, by go_num, by go_num, by go_num, by omega, by omega, by omega, by rw [hO.out, hof, hH.out.1]; rfl, by rw [hA.out, haf, hH.out.2.1]; rfl, LN.out⟩
          case measure => simp [intOf]; omega
      · have hof : openB x.z = true := by unfold openB; rw [e1]; rfl
        have haf : actB x.z = true := by unfold actB; rw [hof]; rfl
        go_wp2_with fail
        go_roundw
        case rel => exact ⟨k + 1, p + 1, q + 1, by go_num, by go_num, by go_num, by omega, by omega, by omega, by rw [hO.out, hof, hH.out.1]; rfl, by rw [hA.out, haf, hH.out.2.1]; rfl, LN.out⟩
        case measure => simp [intOf]; omega
    · have hkn : xs.take k = xs := List.take_of_length_le (by have := HR.out.len; omega)
      have HK := Lib.hid hkn
      clear hkn
      go_wp2_with fail
      go_ret2
      have hh := hH.out
      rw [HK.out] at hh
      exact ⟨by rw [hh.1, hh.2.1]; rfl, hh.2.2⟩

set_option maxRecDepth 100000 in
theorem opened_any {A : Option Addr} {n c : Nat} {xs : List Zv} {w : World} (h : RowS cellsZ 3 w A n c xs) :
    Calls Try.prog 53 #[.slice A n c] w fun e w' => e = .returned (.int .i64 (cntO xs : Int)) ∧ Below w.heap.size w w' := by
  have HC := Lib.hid (count_any h)
  clear h
  go_enter Try.func53, Try.ntmps53
  go_wp2_with fail
  refine HC.out.mono ?_
  rintro e w2 ⟨rfl, hb2⟩
  have L2 := Lib.hid hb2
  clear hb2
  go_wp2_with fail
  go_ret
  exact ⟨rfl, L2.out⟩

set_option maxRecDepth 100000 in
theorem active_any {A : Option Addr} {n c : Nat} {xs : List Zv} {w : World} (h : RowS cellsZ 3 w A n c xs) :
    Calls Try.prog 54 #[.slice A n c] w fun e w' => e = .returned (.int .i64 (cntA xs : Int)) ∧ Below w.heap.size w w' := by
  have HC := Lib.hid (count_any h)
  clear h
  go_enter Try.func54, Try.ntmps54
  go_wp2_with fail
  refine HC.out.mono ?_
  rintro e w2 ⟨rfl, hb2⟩
  have L2 := Lib.hid hb2
  clear hb2
  go_wp2_with fail
  go_ret
  exact ⟨rfl, L2.out⟩

set_option maxRecDepth 100000 in
set_option maxHeartbeats 1600000 in
theorem refOpened_any {A : Option Addr} {n c : Nat} {xs : List Zv} {w : World} (h : RowS cellsZ 3 w A n c xs) :
    Calls Try.prog 30 #[.slice A n c] w fun e w' => e = .returned (.int .i64 (cntO xs : Int)) ∧ Below w.heap.size w w' := by
  have HR := Lib.hid h
  have hbig := h.big
  have HI := fun z D c w => Lib.hid (isOpen_any z D c w)
  unfold zv at HI
  clear h
  go_enter Try.func30, Try.ntmps30
  go_wp2_with fail
  go_loopw [3, 8] (fun x i wr => ∃ k p : Nat, i = .int .i64 k ∧ x = .int .i64 p ∧ k ≤ n ∧ p ≤ k ∧ Hid (cntO (xs.take k) = p ∧ Below w.heap.size w wr)) (fun _ i _ => n - (intOf i).toNat)
  case atStart => exact ⟨0, 0, rfl, rfl, by omega, by omega, rfl, Below.refl _ _⟩
  case round =>
    obtain ⟨k, p, rfl, rfl, hk, hp, hH⟩ := hrel
    by_cases hlt : k < n
    · obtain ⟨x, hx⟩ := HR.out.get hlt
      obtain ⟨b, o, rfl, hb, hc⟩ := HR.out.elem hx
      have hO := Lib.hid (cntO_step hx)
      have c0 : wr.cell? ⟨b, o + k * 3, none⟩ = some (.int .i64 x.z.st) := hc wr (hH.out.2.block b hb) 0 _ rfl
      have c1 : wr.cell? ⟨b, o + k * 3 + 1, none⟩ = some (.int .i64 x.z.fc) := hc wr (hH.out.2.block b hb) 1 _ rfl
      have c2 : wr.cell? ⟨b, o + k * 3 + 2, none⟩ = some (.slice x.D x.z.data.length x.c) := hc wr (hH.out.2.block b hb) 2 _ rfl
      have hk0 : (0 : Int) ≤ (k : Int) := by omega
      have hk1 : (k : Int) < (n : Int) := by omega
      have LN := Lib.hid (hH.out.2.alloc hH.out.2.size (.cells #[.int .i64 x.z.st, .int .i64 x.z.fc, .slice x.D x.z.data.length x.c] 46))
      have HX := fun w => HI x.z x.D x.c w
      clear hc hx HI
      rcases hof : openB x.z
      · rw [hof] at HX
        go_wp2_with fail
        refine (HX _).out.mono ?_
        rintro e w2 ⟨rfl, hb2⟩
        have L2 := Lib.hid (LN.out.trans (hb2.mono LN.out.size))
        clear hb2
        go_wp2_with fail
        go_roundw
        case rel => exact ⟨k + 1, p, by go_num, rfl, by omega, by omega, by rw [hO.out, hof, hH.out.1]; rfl, L2.out⟩
        case measure => simp [intOf]; omega
      · rw [hof] at HX
        go_wp2_with fail
        refine (HX _).out.mono ?_
        rintro e w2 ⟨rfl, hb2⟩
        have L2 := Lib.hid (LN.out.trans (hb2.mono LN.out.size))
        clear hb2
        go_wp2_with fail
        go_roundw
        case rel => exact ⟨k + 1, p + 1, by go_num, by go_num, by omega, by omega, by rw [hO.out, hof, hH.out.1]; rfl, L2.out⟩
        case measure => simp [intOf]; omega
    · have hkn : xs.take k = xs := List.take_of_length_le (by have := HR.out.len; omega)
      have HK := Lib.hid hkn
      clear hkn
      go_wp2_with fail
      go_ret
      have hh := hH.out
      rw [HK.out] at hh
      exact ⟨by rw [hh.1]; rfl, hh.2⟩

set_option maxRecDepth 100000 in
set_option maxHeartbeats 1600000 in
theorem refActive_any {A : Option Addr} {n c : Nat} {xs : List Zv} {w : World} (h : RowS cellsZ 3 w A n c xs) :
    Calls Try.prog 31 #[.slice A n c] w fun e w' => e = .returned (.int .i64 (cntA xs : Int)) ∧ Below w.heap.size w w' := by
  have HR := Lib.hid h
  have hbig := h.big
  have HI := fun z D c w => Lib.hid (isActive_any z D c w)
  unfold zv at HI
  clear h
  go_enter Try.func31, Try.ntmps31
  go_wp2_with fail
  go_loopw [3, 8] (fun x i wr => ∃ k p : Nat, i = .int .i64 k ∧ x = .int .i64 p ∧ k ≤ n ∧ p ≤ k ∧ Hid (cntA (xs.take k) = p ∧ Below w.heap.size w wr)) (fun _ i _ => n - (intOf i).toNat)
  case atStart => exact ⟨0, 0, rfl, rfl, by omega, by omega, rfl, Below.refl _ _⟩
  case round =>
    obtain ⟨k, p, rfl, rfl, hk, hp, hH⟩ := hrel
    by_cases hlt : k < n
    · obtain ⟨x, hx⟩ := HR.out.get hlt
      obtain ⟨b, o, rfl, hb, hc⟩ := HR.out.elem hx
      have hO := Lib.hid (cntA_step hx)
      have c0 : wr.cell? ⟨b, o + k * 3, none⟩ = some (.int .i64 x.z.st) := hc wr (hH.out.2.block b hb) 0 _ rfl
      have c1 : wr.cell? ⟨b, o + k * 3 + 1, none⟩ = some (.int .i64 x.z.fc) := hc wr (hH.out.2.block b hb) 1 _ rfl
      have c2 : wr.cell? ⟨b, o + k * 3 + 2, none⟩ = some (.slice x.D x.z.data.length x.c) := hc wr (hH.out.2.block b hb) 2 _ rfl
      have hk0 : (0 : Int) ≤ (k : Int) := by omega
      have hk1 : (k : Int) < (n : Int) := by omega
      have LN := Lib.hid (hH.out.2.alloc hH.out.2.size (.cells #[.int .i64 x.z.st, .int .i64 x.z.fc, .slice x.D x.z.data.length x.c] 46))
      have HX := fun w => HI x.z x.D x.c w
      clear hc hx HI
      rcases hof : actB x.z
      · rw [hof] at HX
        go_wp2_with fail
        refine (HX _).out.mono ?_
        rintro e w2 ⟨rfl, hb2⟩
        have L2 := Lib.hid (LN.out.trans (hb2.mono LN.out.size))
        clear hb2
        go_wp2_with fail
        go_roundw
        case rel => exact ⟨k + 1, p, by go_num, rfl, by omega, by omega, by rw [hO.out, hof, hH.out.1]; rfl, L2.out⟩
        case measure => simp [intOf]; omega
      · rw [hof] at HX
        go_wp2_with fail
        refine (HX _).out.mono ?_
        rintro e w2 ⟨rfl, hb2⟩
        have L2 := Lib.hid (LN.out.trans (hb2.mono LN.out.size))
        clear hb2
        go_wp2_with fail
        go_roundw
        case rel => exact ⟨k + 1, p + 1, by go_num, by go_num, by omega, by omega, by rw [hO.out, hof, hH.out.1]; rfl, L2.out⟩
        case measure => simp [intOf]; omega
    · have hkn : xs.take k = xs := List.take_of_length_le (by have := HR.out.len; omega)
      have HK := Lib.hid hkn
      clear hkn
      go_wp2_with fail
      go_ret
      have hh := hH.out
      rw [HK.out] at hh
      exact ⟨by rw [hh.1]; rfl, hh.2⟩
end Zon
end Go.Proofs.Ytnnphpfobdcmbaa
