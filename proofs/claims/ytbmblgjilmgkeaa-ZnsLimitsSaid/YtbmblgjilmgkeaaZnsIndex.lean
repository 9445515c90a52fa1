/-
  WALKS: slices.IndexFunc OVER ZONES, with the test that a zone is Implicit.
-/
import Derived.Test.YtbmblgjilmgkeaaZnsMem
namespace Go.Proofs.Ytbmblgjilmgkeaa
open Go.RowKit Mem Zon
namespace Zns

set_option maxRecDepth 100000 in
theorem isImp_any (z : Zn) (D : Option Addr) (c : Nat) (w : World) :
    Calls Try.prog 66 #[zv z D c] w fun e w' => e = .returned (.bool (z.st == 1)) ∧ Below w.heap.size w w' := by
  have L1 := Lib.hid ((Below.refl w.heap.size w).alloc (Nat.le_refl _) (.cells #[.int .i64 z.st, .int .i64 z.fc, .slice D z.data.length c] 42))
  unfold zv
  go_enter Try.func66, Try.ntmps66
  go_wp2_with fail
  go_ret
  exact ⟨rfl, L1.out⟩

def impB (x : Zv) : Bool := x.z.st == 1
def firstV (xs : List Zv) : Int := match xs.findIdx? impB with | none => -1 | some k => (k : Int)
theorem firstV_map (xs : List Zv) : xs.findIdx? impB = firstI (xs.map Zv.z) := by
  unfold firstI
  rw [List.findIdx?_map]
  rfl

set_option maxRecDepth 100000 in
set_option maxHeartbeats 1600000 in
theorem index_any {A : Option Addr} {n c : Nat} {xs : List Zv} {w : World} (h : RowS cellsZ 3 w A n c xs) :
    Calls Try.prog 65 #[.slice A n c, .func (.func 66) #[] #[]] w fun e w' => e = .returned (.int .i64 (firstV xs)) ∧ Below w.heap.size w w' := by
  have HR := Lib.hid h
  have hbig := h.big
  have HI := fun z D c w => Lib.hid (isImp_any z D c w)
  unfold zv at HI
  clear h
  go_enter Try.func65, Try.ntmps65
  go_wp2_with fail
  go_loopw [8] (fun i wr => ∃ k : Nat, i = .int .i64 k ∧ k ≤ n ∧ Hid ((∀ j, j < k → ∀ x, xs[j]? = some x → impB x = false) ∧ Below w.heap.size w wr)) (fun i _ => n - (intOf i).toNat)
  case atStart => exact ⟨0, rfl, by omega, fun j hj => by omega, Below.refl _ _⟩
  case round =>
    obtain ⟨k, rfl, hk, hH⟩ := hrel
    by_cases hlt : k < n
    · obtain ⟨x, hx⟩ := HR.out.get hlt
      obtain ⟨b, o, rfl, hb, hc⟩ := HR.out.elem hx
      have c0 : wr.cell? ⟨b, o + k * 3, none⟩ = some (.int .i64 x.z.st) := hc wr (hH.out.2.block b hb) 0 _ rfl
      have c1 : wr.cell? ⟨b, o + k * 3 + 1, none⟩ = some (.int .i64 x.z.fc) := hc wr (hH.out.2.block b hb) 1 _ rfl
      have c2 : wr.cell? ⟨b, o + k * 3 + 2, none⟩ = some (.slice x.D x.z.data.length x.c) := hc wr (hH.out.2.block b hb) 2 _ rfl
      have hk0 : (0 : Int) ≤ (k : Int) := by omega
      have hk1 : (k : Int) < (n : Int) := by omega
      have HX := fun w => HI x.z x.D x.c w
      have HE := Lib.hid hx
      clear hc hx HI
      rcases hof : (x.z.st == 1)
      · rw [hof] at HX
        go_wp2_with fail
        refine (HX _).out.mono ?_
        rintro e w2 ⟨rfl, hb2⟩
        have L2 := Lib.hid (hH.out.2.trans (hb2.mono hH.out.2.size))
        clear hb2
        go_wp2_with fail
        go_roundw
        case rel =>
          refine ⟨k + 1, by go_num, by omega, fun j hj y hy => ?_, L2.out⟩
          rcases Nat.lt_succ_iff_lt_or_eq.1 hj with h | rfl
          · exact hH.out.1 j h y hy
          · have := HE.out.symm.trans hy; injection this with this; subst this; exact hof
        case measure => simp [intOf]; omega
      · rw [hof] at HX
        go_wp2_with fail
        refine (HX _).out.mono ?_
        rintro e w2 ⟨rfl, hb2⟩
        have L2 := Lib.hid (hH.out.2.trans (hb2.mono hH.out.2.size))
        clear hb2
        go_wp2_with fail
        go_ret
        refine ⟨?_, L2.out⟩
        have : xs.findIdx? impB = some k := by
          rw [List.findIdx?_eq_some_iff_getElem]
          have hkl : k < xs.length := by have := HR.out.len; omega
          have hxk : xs[k] = x := by have := HE.out; rw [List.getElem?_eq_getElem hkl] at this; injection this
          refine ⟨hkl, by rw [hxk]; exact hof, fun j hj => ?_⟩
          have := hH.out.1 j hj _ (List.getElem?_eq_getElem (by omega))
          simp [this]
        unfold firstV
        rw [this]
        rfl
    · have hkn : k = n := by omega
      subst hkn
      go_wp2_with fail
      go_ret
      refine ⟨?_, hH.out.2⟩
      have : xs.findIdx? impB = none := by
        rw [List.findIdx?_eq_none_iff]
        intro x hx
        obtain ⟨j, hj, rfl⟩ := List.mem_iff_getElem.1 hx
        exact hH.out.1 j (by have := HR.out.len; omega) _ (List.getElem?_eq_getElem hj)
      unfold firstV
      rw [this]
      rfl
end Zns
end Go.Proofs.Ytbmblgjilmgkeaa
