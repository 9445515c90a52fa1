/-
  WALKS: what the document's own functions tell of a table: Holder, Of, Next; which leases, ints and tables are the same; copies; few. (Written by gen_leareft.py.)
-/
import Derived.Test.YtehknenlifdchaaLeaRefChk
import Derived.Test.YtehknenlifdchaaLeaRefA
import Derived.Laws.StructEq
namespace Go.Proofs.Ytehknenlifdchaa
open Go.RowKit Mem
namespace Lea
def hasB (keys : List Int) (v : Int) : Bool := keys.contains v
set_option maxRecDepth 100000 in
set_option maxHeartbeats 1600000 in
theorem in_any {w : World} {K : Option Addr} {m kc : Nat} {keys : List Int} (v : Int) (h : Row ci w K m kc keys) (hm : m ≤ 1000000) :
    Calls Try.prog 43 #[.slice K m kc, .int .i64 v] w fun e w' => e = .returned (.bool (hasB keys v)) ∧ w' = w := by
  have HK := Lib.hid h
  have hklen := Lib.hid h.len
  clear h
  go_enter Try.func43, Try.ntmps43
  go_wp2
  go_loop [6, 9] (fun _ i => ∃ k : Nat, i = .int .i64 k ∧ k ≤ m ∧ Hid (∀ z ∈ keys.take k, z ≠ v)) (fun _ i => m - (intOf i).toNat)
  case atStart => exact ⟨0, rfl, by omega, by show ∀ _, _; simp⟩
  case round =>
    obtain ⟨k, rfl, hk, hH⟩ := hrel
    by_cases hlt : k < m
    · obtain ⟨z, hz⟩ := HK.out.get hlt
      obtain ⟨b, o, rfl, hc⟩ := HK.out.cell hz
      have hc' : w.cell? ⟨b, o + k, none⟩ = some (.int .i64 z) := hc
      have hk0 : (0 : Int) ≤ (k : Int) := by omega
      have hkn : (k : Int) < (m : Int) := by omega
      have HZ := Lib.hid hz
      have htk : Hid (keys.take (k + 1) = keys.take k ++ [z]) := by show _ = _; rw [List.take_add_one, hz]; rfl
      clear hz hc
      rcases e : (z == v)
      · have HE : Hid (¬ z = v) := by show ¬ _; simpa using e
        go_wp2
        go_round
        case rel =>
          refine ⟨k + 1, by go_num, by omega, ?_⟩
          show ∀ _, _
          intro y hy
          rw [htk.out] at hy
          rcases List.mem_append.1 hy with hy | hy
          · exact hH.out y hy
          · simp at hy; subst hy; exact HE.out
        case measure => simp [intOf]; omega
      · have HC : Hid (hasB keys v = true) := by
          show _ = _
          unfold hasB
          have : z = v := by simpa using e
          subst this
          simpa using List.mem_of_getElem? HZ.out
        go_wp2
        go_ret
        exact ⟨by rw [HC.out]; rfl, rfl⟩
    · have HC : Hid (hasB keys v = false) := by
        show _ = _
        unfold hasB
        have hkn : keys.take k = keys := List.take_of_length_le (by have := hklen.out; omega)
        have h := hH.out
        rw [hkn] at h
        rw [← Bool.not_eq_true, List.contains_iff_mem]
        exact fun hm => h v hm rfl
      go_wp2
      go_ret
      exact ⟨by rw [HC.out]; rfl, rfl⟩

def inN (keys : List Int) (x : Lv) : Bool := keys.isEmpty || hasB keys x.key
theorem named_filter (l : List Lv) (keys : List Int) : named l keys = l.filter (inN keys) := by
  unfold named inN hasB
  rcases e : keys.isEmpty
  · simp
  · exact (List.filter_eq_self.2 (fun _ _ => rfl)).symm
theorem least_pos {l : List Lv} (h : ∀ x ∈ l, 0 < x.til) : (leastU l == 0) = l.isEmpty := by
  rcases l with _ | ⟨a, r⟩
  · rfl
  · obtain ⟨x, hx, e⟩ := leastU_mem (l := a :: r) (by simp)
    have := h x hx
    show _ = false
    rw [beq_eq_false_iff_ne]
    omega
theorem least_step {l : List Lv} {x : Lv} {u : Int} (h : ∀ x ∈ l, 0 < x.til) (hu : u = leastU l) : leastU (l ++ [x]) = if u = 0 ∨ x.til < u then x.til else u := by
  rw [leastU_snoc, hu]
  have h1 := least_pos h
  by_cases hl : l = []
  · subst hl
    simp [leastU]
  · rw [if_neg hl]
    have : ¬ leastU l = 0 := by
      intro e
      rw [e] at h1
      simp at h1
      exact hl h1
    by_cases h2 : x.til < leastU l
    · rw [if_pos (.inr h2)]; omega
    · rw [if_neg (by omega)]; omega

set_option maxRecDepth 100000 in
set_option maxHeartbeats 6400000 in
theorem refNext_any {last now : Int} {A : Option Addr} {n c : Nat} {l : List Lv} {w : World} {K : Option Addr} {m kc : Nat} {keys : List Int} (h : RowL w A n c l) (hn : n ≤ 1000000) (hks : Row ci w K m kc keys) (hm : m ≤ 1000000) :
    Calls Try.prog 22 #[tv last now A n c, .slice K m kc] w fun e w' => e = .returned (.int .i64 (nextP ⟨last, now, l⟩ keys)) ∧ Below w.heap.size w w' := by
  have HR := Lib.hid h
  have HK := Lib.hid hks
  have hbig := h.big
  have hlen := Lib.hid h.len
  have hklen := Lib.hid hks.len
  have HC := fun w (h : RowL w A n c l) => Lib.hid (refCheck_any (last := last) (now := now) h hn)
  have HIN := fun v w (h : Row ci w K m kc keys) => Lib.hid (in_any v h hm)
  unfold errOf at HC
  have L1 : Hid (Below w.heap.size w (w.alloc (.cells #[.int .i64 last, .int .i64 now, .slice A n c] 24))) := (Below.refl w.heap.size w).alloc (Nat.le_refl _) _
  have B1 : Hid (TBox (w.alloc (.cells #[.int .i64 last, .int .i64 now, .slice A n c] 24)) w.heap.size last now A n c) := Cells.new w _ _
  clear h hks
  unfold nextP
  rw [named_filter]
  simp only
  rcases hok : okT ⟨last, now, l⟩
  · rw [hok] at HC
    simp only [cond_false] at HC
    go_enter Try.func22, Try.ntmps22
    go_upto_region 2 with fail
    generalize w.alloc (.cells #[.int .i64 last, .int .i64 now, .slice A n c] 24) = w1 at *
    obtain ⟨m0, m1, m2⟩ := TBox.cells B1.out
    go_wp2_with fail
    refine (HC w1 (HR.out.below L1.out)).out.mono ?_
    rintro e w2 ⟨rfl, hb⟩
    have L2 := Lib.hid (L1.out.trans (hb.mono L1.out.size))
    clear hb
    go_wp2_with fail
    go_ret
    exact ⟨rfl, L2.out⟩
  · rw [hok] at HC
    simp only [cond_true] at HC
    have HPO : Hid (∀ x ∈ l, 0 < x.til) := by
      show ∀ _, _
      intro x hx
      have h1 := mayB_iff.1 (okT_may hok hx)
      have h2 := (okT_iff.1 hok).2.1
      simp only at h1 h2
      omega
    have hme : (m == 0) = keys.isEmpty := by
      rw [← hklen.out]
      cases keys <;> rfl
    have hmi : ((m : Int) == 0) = keys.isEmpty := by
      rw [← hme, Bool.eq_iff_iff]; simp
    go_enter Try.func22, Try.ntmps22
    go_upto_region 2 with fail
    generalize w.alloc (.cells #[.int .i64 last, .int .i64 now, .slice A n c] 24) = w1 at *
    obtain ⟨m0, m1, m2⟩ := TBox.cells B1.out
    go_wp2_with fail
    refine (HC w1 (HR.out.below L1.out)).out.mono ?_
    rintro e w2 ⟨rfl, hb⟩
    have L2 := Lib.hid (L1.out.trans (hb.mono L1.out.size))
    have B2 := Lib.hid (Cells.below B1.out hb)
    clear hb m0 m1 m2 B1 L1 HC
    obtain ⟨m0, m1, m2⟩ := TBox.cells B2.out
    go_wp2_with fail
    clear m0 m1 m2
    go_loopw [5, 7, 14] (fun s _ i wr => ∃ (k : Nat) (u : Int), i = .int .i64 k ∧ s = .int .i64 u ∧ k ≤ n ∧ Hid (Below w2.heap.size w2 wr ∧ u = leastU ((l.take k).filter (inN keys)))) (fun _ _ i _ => n - (intOf i).toNat)
    case atStart => exact ⟨0, 0, rfl, rfl, by omega, Below.refl _ _, rfl⟩
    case round =>
      obtain ⟨k, u, rfl, rfl, hk, hH⟩ := hrel
      by_cases hlt : k < n
      · obtain ⟨x, hx⟩ := HR.out.get hlt
        obtain ⟨b, o, hA, c0, c1, c2, c3⟩ := RowS.lease_at (HR.out.below (L2.out.trans (hH.out.1.mono L2.out.size))) hx
        subst hA
        have htk : Hid (l.take (k + 1) = l.take k ++ [x]) := by show _ = _; rw [List.take_add_one, hx]; rfl
        have HPK : Hid (∀ y ∈ (l.take k).filter (inN keys), 0 < y.til) := fun y hy => HPO.out y (List.mem_of_mem_take (List.mem_filter.1 hy).1)
        have hk0 : (0 : Int) ≤ (k : Int) := by omega
        have hkn : (k : Int) < (n : Int) := by omega
        clear hx
        have A1 : Hid (Below w2.heap.size w2 (wr.alloc (.cells #[.int .i64 x.key, .int .i64 x.host, .int .i64 x.epoch, .int .i64 x.til] 43))) := hH.out.1.alloc hH.out.1.size _
        have X1 : Hid (LBox (wr.alloc (.cells #[.int .i64 x.key, .int .i64 x.host, .int .i64 x.epoch, .int .i64 x.til] 43)) wr.heap.size x) := Cells.new _ _ _
        go_upto_region 7 with fail
        clear c0 c1 c2 c3
        generalize wr.alloc (.cells #[.int .i64 x.key, .int .i64 x.host, .int .i64 x.epoch, .int .i64 x.til] 43) = w3 at *
        have RK := Lib.hid (HK.out.below (L2.out.trans (A1.out.mono L2.out.size)))
        obtain ⟨n0, n1, n2, n3⟩ := LBox.cells X1.out
        have STEP : Hid (inN keys x = true → leastU ((l.take (k + 1)).filter (inN keys)) = if u = 0 ∨ x.til < u then x.til else u) := by
          show _ → _
          intro hi
          rw [htk.out, List.filter_append, List.filter_cons, if_pos hi, List.filter_nil]
          exact least_step HPK.out hH.out.2
        have STAY : Hid (inN keys x = false → leastU ((l.take (k + 1)).filter (inN keys)) = u) := by
          show _ → _
          intro hi
          rw [htk.out, List.filter_append, List.filter_cons, if_neg (by rw [hi]; simp), List.filter_nil, List.append_nil]
          exact hH.out.2.symm
        rcases e1 : keys.isEmpty
        · have HINX := HIN x.key
          rcases e2 : hasB keys x.key
          · rw [e2] at HINX
            have HI : Hid (inN keys x = false) := by show _ = _; unfold inN; rw [e1, e2]; rfl
            go_wp2_with fail
            refine (HINX w3 RK.out).out.mono ?_
            rintro e w4 ⟨rfl, rfl⟩
            go_wp2_with fail
            go_roundw
            case rel => exact ⟨k + 1, u, by go_num, rfl, by omega, A1.out, (STAY.out HI.out).symm⟩
            case measure => simp [intOf]; omega
          · rw [e2] at HINX
            have HI : Hid (inN keys x = true) := by show _ = _; unfold inN; rw [e1, e2]; rfl
            rcases e3 : (u == 0)
            · rcases e4 : decide (x.til < u)
              · have HE3 : Hid (¬ u = 0) := by show ¬ _; simpa using e3
                have HE4 := Lib.hid (of_decide_eq_false e4)
                go_wp2_with fail
                refine (HINX w3 RK.out).out.mono ?_
                rintro e w4 ⟨rfl, rfl⟩
                go_wp2_with fail
                go_roundw
                case rel => exact ⟨k + 1, u, by go_num, rfl, by omega, A1.out, by rw [STEP.out HI.out, if_neg (fun h => by have := HE3.out; have := HE4.out; omega)]⟩
                case measure => simp [intOf]; omega
              · have HE4 := Lib.hid (of_decide_eq_true e4)
                go_wp2_with fail
                refine (HINX w3 RK.out).out.mono ?_
                rintro e w4 ⟨rfl, rfl⟩
                go_wp2_with fail
                go_roundw
                case rel => exact ⟨k + 1, x.til, by go_num, rfl, by omega, A1.out, by rw [STEP.out HI.out, if_pos (.inr HE4.out)]⟩
                case measure => simp [intOf]; omega
            · have HE3 : Hid (u = 0) := by show _ = _; simpa using e3
              go_wp2_with fail
              refine (HINX w3 RK.out).out.mono ?_
              rintro e w4 ⟨rfl, rfl⟩
              go_wp2_with fail
              go_roundw
              case rel => exact ⟨k + 1, x.til, by go_num, rfl, by omega, A1.out, by rw [STEP.out HI.out, if_pos (.inl HE3.out)]⟩
              case measure => simp [intOf]; omega
        · have HI : Hid (inN keys x = true) := by show _ = _; unfold inN; rw [e1]; rfl
          rcases e3 : (u == 0)
          · rcases e4 : decide (x.til < u)
            · have HE3 : Hid (¬ u = 0) := by show ¬ _; simpa using e3
              have HE4 := Lib.hid (of_decide_eq_false e4)
              go_wp2_with fail
              go_roundw
              case rel => exact ⟨k + 1, u, by go_num, rfl, by omega, A1.out, by rw [STEP.out HI.out, if_neg (fun h => by have := HE3.out; have := HE4.out; omega)]⟩
              case measure => simp [intOf]; omega
            · have HE4 := Lib.hid (of_decide_eq_true e4)
              go_wp2_with fail
              go_roundw
              case rel => exact ⟨k + 1, x.til, by go_num, rfl, by omega, A1.out, by rw [STEP.out HI.out, if_pos (.inr HE4.out)]⟩
              case measure => simp [intOf]; omega
          · have HE3 : Hid (u = 0) := by show _ = _; simpa using e3
            go_wp2_with fail
            go_roundw
            case rel => exact ⟨k + 1, x.til, by go_num, rfl, by omega, A1.out, by rw [STEP.out HI.out, if_pos (.inl HE3.out)]⟩
            case measure => simp [intOf]; omega
      · have hkn : l.take k = l := List.take_of_length_le (by have := hlen.out; omega)
        have HK2 := Lib.hid hkn
        clear hkn
        go_wp2_with fail
        go_ret
        have h := hH.out
        rw [HK2.out] at h
        exact ⟨by rw [← h.2]; rfl, L2.out.trans (h.1.mono L2.out.size)⟩

end Lea
end Go.Proofs.Ytehknenlifdchaa
