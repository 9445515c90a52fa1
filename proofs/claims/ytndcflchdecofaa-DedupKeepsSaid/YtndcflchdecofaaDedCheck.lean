/-
  WALKS: what may be (dedup.Check).
-/
import Derived.Test.YtndcflchdecofaaDedRead
namespace Go.Proofs.Ytndcflchdecofaa
open Go.RowKit Mem Box
namespace Ded

set_option maxRecDepth 100000 in
set_option maxHeartbeats 1600000 in
theorem from1_any {A : Option Addr} {n c g i : Nat} {l : List Sx} {x : Sx} {w : World} (h : ListAt w A n c l) (hx : l[i]? = some x) (hg : Cells w g 24 #[.slice A n c]) :
    Calls Try.prog 25 #[.int .i64 i, .pointer (some ⟨g, 0, none⟩)] w fun e w' => e = .returned (.int .i64 x.f) ∧ Below w.heap.size w w' := by
  have hi : i < n := by have := (List.getElem?_eq_some_iff.1 hx).1; have := h.row.len; omega
  obtain ⟨b, o, hA, -, hc⟩ := h.cells hx
  obtain ⟨c0, -, -⟩ := hc w (Below.refl _ _)
  subst hA
  have m0 := Cells.cell hg 0
  have hk0 : (0 : Int) ≤ (i : Int) := by omega
  have hkn : (i : Int) < (n : Int) := by omega
  clear h hx hg hc
  go_enter Try.func25, Try.ntmps25
  go_wp2_with fail
  go_ret
  exact ⟨rfl, Below.refl _ _⟩
set_option maxRecDepth 100000 in
set_option maxHeartbeats 1600000 in
theorem id1_any {g i : Nat} {s : Sx} {x : Dx} {w : World} (h : SeenAt w s) (hx : s.l[i]? = some x) (hg : SBox w g s) :
    Calls Try.prog 44 #[.int .i64 i, .pointer (some ⟨g, 0, none⟩)] w fun e w' => e = .returned (.int .i64 x.id) ∧ Below w.heap.size w w' := by
  have hi : i < s.n := by have := (List.getElem?_eq_some_iff.1 hx).1; have := h.row.len; omega
  obtain ⟨b, o, hA, -, hc⟩ := SaidAt.cells h hx
  obtain ⟨c0, -⟩ := hc w (Below.refl _ _)
  obtain ⟨-, -, m2⟩ := SBox.cells hg
  rw [hA] at m2
  have hk0 : (0 : Int) ≤ (i : Int) := by omega
  have hkn : (i : Int) < (s.n : Int) := by omega
  clear h hx hg hc
  go_enter Try.func44, Try.ntmps44
  go_wp2_with fail
  go_ret
  exact ⟨rfl, Below.refl _ _⟩
set_option maxRecDepth 100000 in
set_option maxHeartbeats 3200000 in
theorem mayBe_any {s : Sx} {w : World} (h : SeenAt w s) :
    Calls Try.prog 28 #[sxv s] w fun e w' => e = .returned (.bool (okS s.p)) ∧ Below w.heap.size w w' := by
  have H := Lib.hid h
  have L1 : Hid (Below w.heap.size w (w.alloc (.cells #[.int .i64 s.f, .int .i64 s.b, .slice s.A s.n s.c] 51))) := (Below.refl _ w).alloc (Nat.le_refl _) _
  have X1 : Hid (SBox (w.alloc (.cells #[.int .i64 s.f, .int .i64 s.b, .slice s.A s.n s.c] 51)) w.heap.size s) := Cells.new _ _ _
  have HB := h.row.big
  have HL := Lib.hid h.row.len
  have HR := Lib.hid (show ∀ W, Below w.heap.size w W → SBox W w.heap.size s → Calls Try.prog 24 #[.int .i64 s.n, .int .i64 s.b, .func (.func 44) #[] #[.pointer (some ⟨w.heap.size, 0, none⟩)]] W fun e w' => e = .returned (.bool (risesB s.b (s.l.map Dx.id))) ∧ Below W.heap.size W w' from fun W hW hX =>
    rise_any (w := W) 44 #[.pointer (some ⟨w.heap.size, 0, none⟩)] (enters_of Try.func44 (by kernel_rfl) rfl) (by rw [List.length_map]; exact HL.out) HB (fun W2 i v hW2 hv => by
      rw [List.getElem?_map] at hv
      obtain ⟨x, hx, rfl⟩ := Option.map_eq_some_iff.1 hv
      exact id1_any (H.out.below (hW.trans (hW2.mono hW.size))) hx (Cells.below hX hW2)))
  have HE : Hid (okS s.p = (decide (0 ≤ s.b) && (decide (s.n ≤ 8) && risesB s.b (s.l.map Dx.id)))) := by
    show okS _ = _
    unfold okS Sx.p
    dsimp only
    rw [List.length_map, HL.out, List.map_map]
    rfl
  unfold sxv
  clear h
  rcases e1 : decide (0 ≤ s.b)
  · rw [e1] at HE
    go_enter Try.func28, Try.ntmps28
    go_upto_region 1 with fail
    generalize w.alloc (.cells #[.int .i64 s.f, .int .i64 s.b, .slice s.A s.n s.c] 51) = w1 at *
    obtain ⟨m0, m1, m2⟩ := SBox.cells X1.out
    go_wp2_with fail
    go_ret
    exact ⟨by rw [HE.out]; rfl, L1.out⟩
  · rw [e1] at HE
    rcases e2 : decide (s.n ≤ 8)
    · rw [e2] at HE
      go_enter Try.func28, Try.ntmps28
      go_upto_region 1 with fail
      generalize w.alloc (.cells #[.int .i64 s.f, .int .i64 s.b, .slice s.A s.n s.c] 51) = w1 at *
      obtain ⟨m0, m1, m2⟩ := SBox.cells X1.out
      have e2' : decide ((s.n : Int) ≤ 8) = false := by rw [← e2]; exact decide_eq_decide.2 (by omega)
      go_wp2_with fail
      go_ret
      exact ⟨by rw [HE.out]; rfl, L1.out⟩
    · rw [e2] at HE
      go_enter Try.func28, Try.ntmps28
      go_upto_region 1 with fail
      generalize w.alloc (.cells #[.int .i64 s.f, .int .i64 s.b, .slice s.A s.n s.c] 51) = w1 at *
      obtain ⟨m0, m1, m2⟩ := SBox.cells X1.out
      have e2' : decide ((s.n : Int) ≤ 8) = true := by rw [← e2]; exact decide_eq_decide.2 (by omega)
      go_wp2_with (go_at_call 24; refine (HR.out _ L1.out X1.out).mono ?_; rintro e w2 ⟨rfl, hb⟩; have L2 := Lib.hid (L1.out.trans (hb.mono L1.out.size)); clear hb)
      go_ret
      exact ⟨by rw [HE.out]; rfl, L2.out⟩
set_option maxRecDepth 100000 in
set_option maxHeartbeats 1600000 in
theorem not1_any {s : Sx} {w : World} (h : SeenAt w s) :
    Calls Try.prog 27 #[sxv s] w fun e w' => e = .returned (.bool (!okS s.p)) ∧ Below w.heap.size w w' := by
  have H := Lib.hid (fun W (hW : Below w.heap.size w W) => mayBe_any (h.below hW))
  have L1 : Hid (Below w.heap.size w (w.alloc (.cells #[.int .i64 s.f, .int .i64 s.b, .slice s.A s.n s.c] 51))) := (Below.refl _ w).alloc (Nat.le_refl _) _
  have X1 : Hid (SBox (w.alloc (.cells #[.int .i64 s.f, .int .i64 s.b, .slice s.A s.n s.c] 51)) w.heap.size s) := Cells.new _ _ _
  unfold sxv at *
  clear h
  go_enter Try.func27, Try.ntmps27
  go_upto_region 1 with fail
  generalize w.alloc (.cells #[.int .i64 s.f, .int .i64 s.b, .slice s.A s.n s.c] 51) = w1 at *
  obtain ⟨m0, m1, m2⟩ := SBox.cells X1.out
  go_wp2_with fail
  refine (H.out _ L1.out).mono ?_
  rintro e w2 ⟨rfl, hb⟩
  have L2 := Lib.hid (L1.out.trans (hb.mono L1.out.size))
  clear hb m0 m1 m2
  go_wp2_with fail
  go_ret
  exact ⟨rfl, L2.out⟩

set_option maxRecDepth 100000 in
set_option maxHeartbeats 1600000 in
/-- slices.IndexFunc, asked who may not be. -/
theorem index_any {A : Option Addr} {n c : Nat} {l : List Sx} {w : World} (h : ListAt w A n c l) :
    Calls Try.prog 43 #[.slice A n c, .func (.func 27) #[] #[]] w fun e w' => (∃ r : Int, e = .returned (.int .i64 r) ∧ decide (0 ≤ r) = l.any (fun x => !okS x.p)) ∧ Below w.heap.size w w' := by
  have HR := Lib.hid h
  have hbig := h.row.big
  have hlen := Lib.hid h.row.len
  clear h
  have eg : ∀ args w, (callFunc 27 args).run Try.prog w = .ok (.enter 27 args) w := enters_of Try.func27 (by kernel_rfl) rfl
  go_enter Try.func43, Try.ntmps43
  go_wp2
  go_loopw [5, 8] (fun _ i wr => ∃ k : Nat, i = .int .i64 k ∧ k ≤ n ∧ Hid (Below w.heap.size w wr ∧ ∀ j x, j < k → l[j]? = some x → okS x.p = true)) (fun _ i _ => n - (intOf i).toNat)
  case atStart => exact ⟨0, rfl, by omega, Below.refl _ _, fun j x hj => by omega⟩
  case round =>
    obtain ⟨k, rfl, hk, hH⟩ := hrel
    by_cases hlt : k < n
    · obtain ⟨y, hy, hyy⟩ := HR.out.get hlt
      obtain ⟨b, o, hA, -, hc⟩ := HR.out.cells hy
      obtain ⟨c0, c1, c2⟩ := hc _ hH.out.1
      subst hA
      have hk0 : (0 : Int) ≤ (k : Int) := by omega
      have hkn : (k : Int) < (n : Int) := by omega
      have HC := Lib.hid (fun W (hW : Below w.heap.size w W) => not1_any (hyy.below hW))
      have HY := Lib.hid hy
      unfold sxv at HC
      clear hy hyy hc
      cases e : okS y.p
      · rw [e] at HC
        have HE := Lib.hid e
        clear e
        go_wp2_with (go_at_fn 27; refine (HC.out _ hH.out.1).mono ?_; rintro e w2 ⟨rfl, hb⟩; have L2 := Lib.hid (hH.out.1.trans (hb.mono hH.out.1.size)); clear hb)
        go_ret
        refine ⟨⟨_, rfl, ?_⟩, L2.out⟩
        have : l.any (fun x => !okS x.p) = true := List.any_eq_true.2 ⟨y, List.mem_of_getElem? HY.out, by rw [HE.out]; rfl⟩
        rw [this]
        exact decide_eq_true (by omega)
      · rw [e] at HC
        have HE := Lib.hid e
        clear e
        go_wp2_with (go_at_fn 27; refine (HC.out _ hH.out.1).mono ?_; rintro e w2 ⟨rfl, hb⟩; have L2 := Lib.hid (hH.out.1.trans (hb.mono hH.out.1.size)); clear hb)
        go_roundw
        case rel =>
          refine ⟨k + 1, by go_num, by omega, L2.out, fun j x hj hx => ?_⟩
          by_cases h1 : j = k
          · subst h1
            have := HY.out.symm.trans hx
            injection this with this; subst this; exact HE.out
          · exact hH.out.2 j x (by omega) hx
        case measure => simp [intOf]; omega
    · go_wp2_with fail
      go_ret
      refine ⟨⟨_, rfl, ?_⟩, hH.out.1⟩
      have : l.any (fun x => !okS x.p) = false := by
        rw [List.any_eq_false]
        intro x hx
        obtain ⟨i, hi⟩ := List.mem_iff_getElem?.1 hx
        rw [hH.out.2 i x (by have := (List.getElem?_eq_some_iff.1 hi).1; have := hlen.out; omega) hi]; simp
      rw [this]
      rfl
set_option maxRecDepth 100000 in
set_option maxHeartbeats 800000 in
theorem contains_any {A : Option Addr} {n c : Nat} {l : List Sx} {w : World} (h : ListAt w A n c l) :
    Calls Try.prog 26 #[.slice A n c, .func (.func 27) #[] #[]] w fun e w' => e = .returned (.bool (l.any (fun x => !okS x.p))) ∧ Below w.heap.size w w' := by
  have HI := Lib.hid (index_any h)
  clear h
  go_enter Try.func26, Try.ntmps26
  go_wp2_with fail
  refine HI.out.mono ?_
  rintro e w2 ⟨⟨r, rfl, hr⟩, hb⟩
  have HRR := Lib.hid hr
  have HB := Lib.hid hb
  clear hr hb
  go_wp2_with fail
  go_ret
  exact ⟨by rw [← HRR.out]; rfl, HB.out⟩

/-- The error of a list. -/
def errP (l : List Sp) : Int := bif okL l then 0 else 1
set_option maxRecDepth 100000 in
set_option maxHeartbeats 3200000 in
theorem check_any {A : Option Addr} {n c : Nat} {l : List Sx} {w : World} (h : ListAt w A n c l) :
    Calls Try.prog 12 #[.slice A n c] w fun e w' => e = .returned (.int .i64 (errP (l.map Sx.p))) ∧ Below w.heap.size w w' := by
  have H := Lib.hid h
  have L1 : Hid (Below w.heap.size w (w.alloc (.cells #[.slice A n c] 24))) := (Below.refl _ w).alloc (Nat.le_refl _) _
  have X1 : Hid (Cells (w.alloc (.cells #[.slice A n c] 24)) w.heap.size 24 #[.slice A n c]) := Cells.new _ _ _
  have HB := h.row.big
  have HL := Lib.hid h.row.len
  have HR := Lib.hid (show ∀ W, Below w.heap.size w W → Cells W w.heap.size 24 #[.slice A n c] → Calls Try.prog 24 #[.int .i64 n, .int .i64 0, .func (.func 25) #[] #[.pointer (some ⟨w.heap.size, 0, none⟩)]] W fun e w' => e = .returned (.bool (risesB 0 (l.map Sx.f))) ∧ Below W.heap.size W w' from fun W hW hX =>
    rise_any (w := W) 25 #[.pointer (some ⟨w.heap.size, 0, none⟩)] (enters_of Try.func25 (by kernel_rfl) rfl) (by rw [List.length_map]; exact HL.out) HB (fun W2 i v hW2 hv => by
      rw [List.getElem?_map] at hv
      obtain ⟨x, hx, rfl⟩ := Option.map_eq_some_iff.1 hv
      exact from1_any (H.out.below (hW.trans (hW2.mono hW.size))) hx (Cells.below hX hW2)))
  have HC := Lib.hid (fun W (hW : Below w.heap.size w W) => contains_any (H.out.below hW))
  have HE : Hid (errP (l.map Sx.p) = bif risesB 0 (l.map Sx.f) then bif l.any (fun x => !okS x.p) then 1 else 0 else 1) := by
    show errP _ = _
    unfold errP okL
    rw [List.map_map, List.all_map]
    have : l.any (fun x => !okS x.p) = !(l.all (okS ∘ Sx.p)) := by simp [List.not_all_eq_any_not]
    rw [this]
    have e2 : l.map (Sp.f ∘ Sx.p) = l.map Sx.f := rfl
    rw [e2]
    cases risesB 0 (l.map Sx.f) <;> cases l.all (okS ∘ Sx.p) <;> rfl
  clear h
  rcases e1 : risesB 0 (l.map Sx.f)
  · rw [e1] at HE HR
    go_enter Try.func12, Try.ntmps12
    go_upto_region 1 with fail
    generalize w.alloc (.cells #[.slice A n c] 24) = w1 at *
    have m0 := Cells.cell X1.out 0
    go_wp2_with (go_at_call 24; refine (HR.out _ L1.out X1.out).mono ?_; rintro e w2 ⟨rfl, hb⟩; have L2 := Lib.hid (L1.out.trans (hb.mono L1.out.size)); clear hb)
    go_ret
    exact ⟨by rw [HE.out]; rfl, L2.out⟩
  · rw [e1] at HE HR
    rcases e2 : l.any (fun x => !okS x.p)
    all_goals
      rw [e2] at HE HC
      go_enter Try.func12, Try.ntmps12
      go_upto_region 1 with fail
      generalize w.alloc (.cells #[.slice A n c] 24) = w1 at *
      have m0 := Cells.cell X1.out 0
      go_upto_region 3 with (go_at_call 24; refine (HR.out _ L1.out X1.out).mono ?_; rintro e w2 ⟨rfl, hb⟩; have L2 := Lib.hid (L1.out.trans (hb.mono L1.out.size)); have X2 := Lib.hid (Cells.below X1.out hb); clear hb)
      have m1 := Cells.cell X2.out 0
      go_wp2_with (go_at_call 26; refine (HC.out _ L2.out).mono ?_; rintro e w3 ⟨rfl, hb⟩; have L3 := Lib.hid (L2.out.trans (hb.mono L2.out.size)); clear hb)
      go_ret
      exact ⟨by rw [HE.out]; rfl, L3.out⟩
end Ded
end Go.Proofs.Ytndcflchdecofaa
