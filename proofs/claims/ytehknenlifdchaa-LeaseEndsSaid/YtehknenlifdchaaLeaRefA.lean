/-
  WALKS: what the document's own functions tell of a table: Holder, Of, Next; which leases, ints and tables are the same; copies; few. (Written by gen_leareft.py.)
-/
import Derived.Test.YtehknenlifdchaaLeaRefChk
import Derived.Test.YtehknenlifdchaaLeaOf
import Derived.Laws.StructEq
namespace Go.Proofs.Ytehknenlifdchaa
open Go.RowKit Mem
namespace Lea

theorem lease_guard : Try.prog.eqGuardType Try.prog.depth 43 = false := by kernel_rfl
theorem lease_equal (x : Lv) (w : World) : (Op.equalIn 10000 43 (lv x) (lv x)).run Try.prog w = .ok true w := by
  have u3 := Try.underlying3
  have a3 := Try.isAgg3
  have z3 := Try.sizeOf3
  have hS : Try.prog.underlying 43 = some (.struct (Try.prog.fieldsOf 43)) := by kernel_rfl
  have hp : Try.prog.stoodInHeld 43 = false := by kernel_rfl
  rw [show (10000 : Nat) = 9999 + 1 from rfl, run_equalIn_agg w 9999 43 _ _ hS hp]
  simp only [Program.fieldsOf, Try.underlying43]
  go_simp
  try simp
theorem lease_eql (x : Lv) (w : World) : (binOp .eql 43 (lv x) (lv x)).run Try.prog w = .ok (.bool true) w := by
  rw [run_eql_struct, lease_equal]; rfl
theorem lease_neq (x : Lv) (w : World) : (binOp .neq 43 (lv x) (lv x)).run Try.prog w = .ok (.bool false) w := by
  rw [run_neq_struct, lease_equal]; rfl

theorem find_first {l : List Lv} {key : Int} {k : Nat} {x : Lv} (h : ∀ j y, j < k → l[j]? = some y → y.key ≠ key) (hx : l[k]? = some x) (hk : x.key = key) : findL l key = some x := by
  induction l generalizing k with
  | nil => simp at hx
  | cons a l ih =>
    unfold findL
    rcases k with _ | k
    · simp at hx; subst hx
      rw [List.find?_cons_of_pos (by simpa using hk)]
    · rw [List.find?_cons_of_neg (by simpa using h 0 a (by omega) rfl)]
      exact ih (k := k) (fun j y hj hy => h (j + 1) y (by omega) (by simpa using hy)) (by simpa using hx)
theorem held_none {l : List Lv} {key : Int} {n : Nat} (hl : l.length = n) (h : ∀ j y, j < n → l[j]? = some y → y.key ≠ key) : heldB l key = false := by
  rw [held_false]
  intro x hx
  obtain ⟨i, hi⟩ := List.mem_iff_getElem?.1 hx
  exact h i x (by have := (List.getElem?_eq_some_iff.1 hi).1; omega) hi

set_option maxRecDepth 100000 in
set_option maxHeartbeats 6400000 in
theorem refHolder_any {last now : Int} {A : Option Addr} {n c : Nat} {l : List Lv} {w : World} (key : Int) (h : RowL w A n c l) (hn : n ≤ 1000000) :
    Calls Try.prog 23 #[tv last now A n c, .int .i64 key] w fun e w' => e = .returned (.tuple #[lv (holdP ⟨last, now, l⟩ key).1, .bool (holdP ⟨last, now, l⟩ key).2]) ∧ Below w.heap.size w w' := by
  have HR := Lib.hid h
  have hbig := h.big
  have hlen := Lib.hid h.len
  have HC := fun w (h : RowL w A n c l) => Lib.hid (refCheck_any (last := last) (now := now) h hn)
  unfold errOf at HC
  have L1 : Hid (Below w.heap.size w ((w.alloc (.cells #[.int .i64 last, .int .i64 now, .slice A n c] 24)).alloc (.cells #[.int .i64 0, .int .i64 0, .int .i64 0, .int .i64 0] 43))) := ((Below.refl w.heap.size w).alloc (Nat.le_refl _) _).alloc (by simp) _
  have B1 : Hid (TBox ((w.alloc (.cells #[.int .i64 last, .int .i64 now, .slice A n c] 24)).alloc (.cells #[.int .i64 0, .int .i64 0, .int .i64 0, .int .i64 0] 43)) w.heap.size last now A n c) := heap_alloc2_old w _ _
  have N1 : Hid (LBox ((w.alloc (.cells #[.int .i64 last, .int .i64 now, .slice A n c] 24)).alloc (.cells #[.int .i64 0, .int .i64 0, .int .i64 0, .int .i64 0] 43)) (w.heap.size + 1) zL) := heap_alloc2_new w _ _
  clear h
  unfold holdP
  simp only
  have HN := Lib.hid (fun h => held_none (key := key) hlen.out h)
  have HY := fun k x => Lib.hid (fun h1 h2 h3 => find_first (l := l) (key := key) (k := k) (x := x) h1 h2 h3)
  rcases hok : okT ⟨last, now, l⟩
  · rw [hok] at HC
    simp only [cond_false] at HC
    go_enter Try.func23, Try.ntmps23
    go_upto_region 1 with fail
    generalize (w.alloc (.cells #[.int .i64 last, .int .i64 now, .slice A n c] 24)).alloc (.cells #[.int .i64 0, .int .i64 0, .int .i64 0, .int .i64 0] 43) = w1 at *
    obtain ⟨m0, m1, m2⟩ := TBox.cells B1.out
    go_wp2_with fail
    refine (HC w1 (HR.out.below L1.out)).out.mono ?_
    rintro e w2 ⟨rfl, hb⟩
    have L2 := Lib.hid (L1.out.trans (hb.mono L1.out.size))
    have B2 := Lib.hid (Cells.below B1.out hb)
    have N2 := Lib.hid (Cells.below N1.out hb)
    clear hb m0 m1 m2
    obtain ⟨z0, z1, z2, z3⟩ := LBox.cells (x := zL) N2.out
    obtain ⟨f0, f1, f2, f3⟩ := LBox.frozen (x := zL) N2.out
    go_wp2_with fail
    refine bodyPost_ret_by (results_c1 rfl _ _ (w.heap.size + 1) _ _ _ _ rfl (Cells.set4 N2.out (.int .i64 0) (.int .i64 0) (.int .i64 0) (.int .i64 0)) Try.underlying43 rfl (by kernel_rfl)) rfl ?_
    exact ⟨rfl, below4 L2.out (by omega) _ _ _ _⟩
  · rw [hok] at HC
    simp only [cond_true] at HC
    go_enter Try.func23, Try.ntmps23
    go_upto_region 1 with fail
    generalize (w.alloc (.cells #[.int .i64 last, .int .i64 now, .slice A n c] 24)).alloc (.cells #[.int .i64 0, .int .i64 0, .int .i64 0, .int .i64 0] 43) = w1 at *
    obtain ⟨m0, m1, m2⟩ := TBox.cells B1.out
    go_wp2_with fail
    refine (HC w1 (HR.out.below L1.out)).out.mono ?_
    rintro e w2 ⟨rfl, hb⟩
    have L2 := Lib.hid (L1.out.trans (hb.mono L1.out.size))
    have B2 := Lib.hid (Cells.below B1.out hb)
    have N2 := Lib.hid (Cells.below N1.out hb)
    clear hb m0 m1 m2
    obtain ⟨m0, m1, m2⟩ := TBox.cells B2.out
    go_wp2_with fail
    clear m0 m1 m2 B1 N1 L1 HC
    go_loopw [7, 15] (fun _ i wr => ∃ k : Nat, i = .int .i64 k ∧ k ≤ n ∧ Hid (Below w2.heap.size w2 wr ∧ ∀ j y, j < k → l[j]? = some y → y.key ≠ key)) (fun _ i _ => n - (intOf i).toNat)
    case atStart => exact ⟨0, rfl, by omega, Below.refl _ _, fun j y hj => by omega⟩
    case round =>
      obtain ⟨k, rfl, hk, hH⟩ := hrel
      by_cases hlt : k < n
      · obtain ⟨x, hx⟩ := HR.out.get hlt
        obtain ⟨b, o, hA, c0, c1, c2, c3⟩ := RowS.lease_at (HR.out.below (L2.out.trans (hH.out.1.mono L2.out.size))) hx
        subst hA
        have HX := Lib.hid hx
        have hk0 : (0 : Int) ≤ (k : Int) := by omega
        have hkn : (k : Int) < (n : Int) := by omega
        clear hx
        have A1 : Hid (Below w2.heap.size w2 (wr.alloc (.cells #[.int .i64 x.key, .int .i64 x.host, .int .i64 x.epoch, .int .i64 x.til] 43))) := hH.out.1.alloc hH.out.1.size _
        have X1 : Hid (LBox (wr.alloc (.cells #[.int .i64 x.key, .int .i64 x.host, .int .i64 x.epoch, .int .i64 x.til] 43)) wr.heap.size x) := Cells.new _ _ _
        go_upto_region 6 with fail
        clear c0 c1 c2 c3
        have N3 := Lib.hid (Cells.below N2.out A1.out)
        generalize wr.alloc (.cells #[.int .i64 x.key, .int .i64 x.host, .int .i64 x.epoch, .int .i64 x.til] 43) = w3 at *
        obtain ⟨n0, n1, n2, n3⟩ := LBox.cells X1.out
        rcases e : (x.key == key)
        · have HE : Hid (¬ x.key = key) := by show ¬ _; simpa using e
          go_wp2_with fail
          go_roundw
          case rel =>
            refine ⟨k + 1, by go_num, by omega, A1.out, fun j y hj hy => ?_⟩
            by_cases h1 : j = k
            · subst h1
              have := HX.out.symm.trans hy
              injection this with this; subst this
              exact HE.out
            · exact hH.out.2 j y (by omega) hy
          case measure => simp [intOf]; omega
        · have hkk : x.key = key := by simpa using e
          have HF := Lib.hid ((HY k x).out hH.out.2 HX.out hkk)
          have HHB : Hid (heldB l key = true) := by show _ = _; rw [find_held, HF.out]; rfl
          have HG : Hid (getL l key = x) := by show _ = _; unfold getL; rw [HF.out]; rfl
          clear hkk
          obtain ⟨z0, z1, z2, z3⟩ := LBox.cells (x := zL) N3.out
          obtain ⟨f0, f1, f2, f3⟩ := LBox.frozen (x := zL) N3.out
          go_wp2_with fail
          refine bodyPost_ret_by (results_c1 rfl _ _ (w.heap.size + 1) _ _ _ _ rfl (Cells.set4 N3.out (.int .i64 x.key) (.int .i64 x.host) (.int .i64 x.epoch) (.int .i64 x.til)) Try.underlying43 rfl (by kernel_rfl)) rfl ?_
          exact ⟨by rw [HHB.out, HG.out]; rfl, below4 (L2.out.trans (A1.out.mono L2.out.size)) (by omega) _ _ _ _⟩
      · have hkn : k = n := by omega
        subst hkn
        have HHB := Lib.hid (HN.out hH.out.2)
        have N3 := Lib.hid (Cells.below N2.out hH.out.1)
        obtain ⟨z0, z1, z2, z3⟩ := LBox.cells (x := zL) N3.out
        obtain ⟨f0, f1, f2, f3⟩ := LBox.frozen (x := zL) N3.out
        go_wp2_with fail
        refine bodyPost_ret_by (results_c1 rfl _ _ (w.heap.size + 1) _ _ _ _ rfl (Cells.set4 N3.out (.int .i64 0) (.int .i64 0) (.int .i64 0) (.int .i64 0)) Try.underlying43 rfl (by kernel_rfl)) rfl ?_
        exact ⟨by rw [HHB.out]; rfl, below4 (L2.out.trans (hH.out.1.mono L2.out.size)) (by omega) _ _ _ _⟩

set_option maxRecDepth 100000 in
set_option maxHeartbeats 6400000 in
theorem refOf_any {last now : Int} {A : Option Addr} {n c : Nat} {l : List Lv} {w : World} (host : Int) (h : RowL w A n c l) (hn : n ≤ 1000000) :
    Calls Try.prog 20 #[tv last now A n c, .int .i64 host] w (GaveI w (ofP ⟨last, now, l⟩ host)) := by
  have HR := Lib.hid h
  have hbig := h.big
  have hlen := Lib.hid h.len
  have HC := fun w (h : RowL w A n c l) => Lib.hid (refCheck_any (last := last) (now := now) h hn)
  unfold errOf at HC
  have L1 : Hid (Below w.heap.size w (w.alloc (.cells #[.int .i64 last, .int .i64 now, .slice A n c] 24))) := (Below.refl w.heap.size w).alloc (Nat.le_refl _) _
  have B1 : Hid (TBox (w.alloc (.cells #[.int .i64 last, .int .i64 now, .slice A n c] 24)) w.heap.size last now A n c) := Cells.new w _ _
  clear h
  unfold ofP
  simp only
  rcases hok : okT ⟨last, now, l⟩
  · rw [hok] at HC
    simp only [cond_false] at HC
    go_enter Try.func20, Try.ntmps20
    go_upto_region 2 with fail
    generalize w.alloc (.cells #[.int .i64 last, .int .i64 now, .slice A n c] 24) = w1 at *
    obtain ⟨m0, m1, m2⟩ := TBox.cells B1.out
    go_wp2_with fail
    refine (HC w1 (HR.out.below L1.out)).out.mono ?_
    rintro e w2 ⟨rfl, hb⟩
    have L2 := Lib.hid (L1.out.trans (hb.mono L1.out.size))
    clear hb
    go_wp2_with fail
    go_ret
    exact GaveI.nil L2.out
  · rw [hok] at HC
    simp only [cond_true] at HC
    go_enter Try.func20, Try.ntmps20
    go_upto_region 2 with fail
    generalize w.alloc (.cells #[.int .i64 last, .int .i64 now, .slice A n c] 24) = w1 at *
    obtain ⟨m0, m1, m2⟩ := TBox.cells B1.out
    go_wp2_with fail
    refine (HC w1 (HR.out.below L1.out)).out.mono ?_
    rintro e w2 ⟨rfl, hb⟩
    have L2 := Lib.hid (L1.out.trans (hb.mono L1.out.size))
    have B2 := Lib.hid (Cells.below B1.out hb)
    clear hb m0 m1 m2 B1 L1 HC
    obtain ⟨m0, m1, m2⟩ := TBox.cells B2.out
    go_wp2_with fail
    clear m0 m1 m2
    go_loopw [5, 7, 14] (fun s _ i wr => ∃ (k : Nat) (S : Option Addr) (m d : Nat), i = .int .i64 k ∧ s = .slice S m d ∧ k ≤ n ∧ m ≤ k ∧ Hid (Below w2.heap.size w2 wr ∧ Owns ci 3 w2.heap.size wr (.slice S m d) m (((l.take k).filter (fun x => x.host == host)).map Lv.key))) (fun _ _ i _ => n - (intOf i).toNat)
    case atStart => exact ⟨0, none, 0, 0, rfl, rfl, by omega, by omega, Below.refl _ _, Owns.nil _ _ _ _⟩
    case round =>
      obtain ⟨k, S, m, d, rfl, rfl, hk, hm, hH⟩ := hrel
      by_cases hlt : k < n
      · obtain ⟨x, hx⟩ := HR.out.get hlt
        obtain ⟨b, o, hA, c0, c1, c2, c3⟩ := RowS.lease_at (HR.out.below (L2.out.trans (hH.out.1.mono L2.out.size))) hx
        subst hA
        have htk : Hid (l.take (k + 1) = l.take k ++ [x]) := by show _ = _; rw [List.take_add_one, hx]; rfl
        have hk0 : (0 : Int) ≤ (k : Int) := by omega
        have hkn : (k : Int) < (n : Int) := by omega
        clear hx
        have A1 : Hid (Below w2.heap.size w2 (wr.alloc (.cells #[.int .i64 x.key, .int .i64 x.host, .int .i64 x.epoch, .int .i64 x.til] 43))) := hH.out.1.alloc hH.out.1.size _
        have O1 := Lib.hid (hH.out.2.alloc (.cells #[.int .i64 x.key, .int .i64 x.host, .int .i64 x.epoch, .int .i64 x.til] 43))
        have X1 : Hid (LBox (wr.alloc (.cells #[.int .i64 x.key, .int .i64 x.host, .int .i64 x.epoch, .int .i64 x.til] 43)) wr.heap.size x) := Cells.new _ _ _
        go_upto_region 7 with fail
        clear c0 c1 c2 c3
        generalize wr.alloc (.cells #[.int .i64 x.key, .int .i64 x.host, .int .i64 x.epoch, .int .i64 x.til] 43) = w3 at *
        obtain ⟨n0, n1, n2, n3⟩ := LBox.cells X1.out
        rcases e : (x.host == host)
        · have HE := Lib.hid e
          go_wp2_with fail
          go_roundw
          case rel => exact ⟨k + 1, S, m, d, by go_num, rfl, by omega, by omega, A1.out, by rw [htk.out, List.filter_append, List.map_append]; simpa [HE.out] using O1.out⟩
          case measure => simp [intOf]; omega
        · have HE := Lib.hid e
          have A5 : Hid (Below w2.heap.size w2 (w3.alloc (.cells #[.int .i64 x.key] 3))) := A1.out.alloc A1.out.size _
          have B5 : Hid (OneBox (w3.alloc (.cells #[.int .i64 x.key] 3)) w3.heap.size 3 (.int .i64 x.key)) := Cells.new _ _ _
          have O5 := Lib.hid (O1.out.alloc (.cells #[.int .i64 x.key] 3))
          go_wp2_with (at_builtin
                       refine wpList_append_row ci_one Try.underlying26 info_int rfl rfl (.tmp 22) (.tmp 25) rfl rfl w2.heap.size (.slice S m d) m _ rfl O5.out _ 1 1 [x.key] rfl (Row.one B5.out) (by omega) (by omega) A5.out.size ?_
                       intro A' c' w' h1 h2
                       have O6 := Lib.hid h1
                       have A6 := Lib.hid (A5.out.trans h2)
                       clear h1 h2)
          go_roundw
          case rel => exact ⟨k + 1, A', m + 1, c', by go_num, rfl, by omega, by omega, A6.out, by rw [htk.out, List.filter_append, List.map_append]; simpa [HE.out] using O6.out⟩
          case measure => simp [intOf]; omega
      · have hkn : l.take k = l := List.take_of_length_le (by have := hlen.out; omega)
        have HK := Lib.hid hkn
        clear hkn
        go_wp2_with fail
        go_ret
        have h := hH.out
        rw [HK.out] at h
        exact GaveI.of (h.2.mono L2.out.size) (by omega) (L2.out.trans (h.1.mono L2.out.size))

end Lea
end Go.Proofs.Ytehknenlifdchaa
