/-
  WALKS OVER seg'S READING: take, takeHead, takeRec.
-/
import Derived.Test.YtedandbkdjmfhaaSegHead
import Derived.Laws.ResultCell
namespace Go.Proofs.Ytedandbkdjmfhaa
open Go.RowKit Mem
namespace Seg
open Wire

theorem takeFixed_at {A : Option Addr} {n c : Nat} {l : List B8} {w : World} (h : Row cb w A n c l) {v e : Nat} (hf : (four l = none ∧ v = 0 ∧ e = 20) ∨ (four l = some v ∧ e = 0)) :
    Calls Try.prog 43 #[.slice A n c] w (TookF v e w) := by
  rcases hf with ⟨h4, rfl, rfl⟩ | ⟨h4, rfl⟩
  · refine takeFixed_short h ?_
    rw [← h.len]
    match l, h4 with
    | [], _ => simp
    | [_], _ => simp
    | [_, _], _ => simp
    | [_, _, _], _ => simp
  · match l, h4, h with
    | x :: y :: z :: u :: r, h4, h =>
      have e : v = Wire.dec4 x y z u := by simp only [four, Option.some.injEq] at h4; exact h4.symm
      subst e
      exact takeFixed_long h

/-- What take tells. -/
def TookK (g : Nat) (w : World) (o : Option (List B8 × Nat)) (en : Ending) (w' : World) : Prop :=
  (match o with
   | none => en = .returned (.tuple #[.slice none 0 0, .int .i64 0, .bool false])
   | some (x, k) => ∃ B j d, en = .returned (.tuple #[.slice B j d, .int .i64 (k : Int), .bool true]) ∧ Owns cb 5 w.heap.size w' (.slice B j d) j x) ∧ Crc.Keep g w w'

set_option maxRecDepth 100000 in
set_option maxHeartbeats 1600000 in
theorem take_any {g k : Nat} {A : Option Addr} {n c : Nat} {b : List B8} {w : World} (ht : Tk g k w) (hk : k ≤ 1000000000000000000) (h : RowO g w A n c b) (hn : n ≤ 1000000) :
    Calls Try.prog 29 #[frV g, .slice A n c] w fun en w' => TookK g w (tk b) en w' ∧ Tk g (k + 1) w' := by
  have hg := ht.lt
  have HT := Lib.hid ht
  have HR := Lib.hid h
  rcases hv : vec1 b with ⟨v, k1, e1⟩
  have HV := fun w (h : Row cb w A n c b) => Lib.hid (takeVec_at h (Nat.le_trans hn (by omega)) hv)
  have htk : tk b = if e1 = 0 then (if four (b.drop k1) = some (sumOf v) then some (v, k1 + 4) else none) else none := by unfold tk; rw [hv]
  have K1 := Lib.hid ((Crc.Keep.refl g w).alloc (.cells #[.pointer (some ⟨g, 0, none⟩)] 60))
  have T1 := Lib.hid (HT.out.alloc (.cells #[.pointer (some ⟨g, 0, none⟩)] 60))
  have hh := Lib.hid (heap_alloc_new w (.cells #[.pointer (some ⟨g, 0, none⟩)] 60))
  have s1 : Hid (w.heap.size < (w.alloc (.cells #[.pointer (some ⟨g, 0, none⟩)] 60)).heap.size) := by show _ < _; simp
  unfold frV
  clear ht h
  by_cases he : e1 = 0
  · subst he
    rw [if_pos rfl] at htk
    obtain ⟨v1, v2, v3, v4⟩ := vec1_one hv
    have hk1 : k1 ≤ n := by have := HR.out.row.len; omega
    have hcap := HR.out.row.cap
    have hsl := run_tail A n c k1 hk1
    clear v1 v2 hv
    by_cases h4 : four (b.drop k1) = none
    · have hr : Hid (tk b = none) := by show _ = _; rw [htk, h4]; simp
      have HF := fun w (h : Row cb w (tailA A c k1) (n - k1) (c - k1) (b.drop k1)) => Lib.hid (takeFixed_at h (v := 0) (e := 20) (.inl ⟨h4, rfl, rfl⟩))
      clear htk h4
      go_enter Try.func29, Try.ntmps29
      go_wp2_with fail
      generalize w.alloc (.cells #[.pointer (some ⟨g, 0, none⟩)] 60) = w1 at *
      refine (HV w1 (HR.out.keep K1.out).row).out.mono ?_
      rintro e w2 ⟨X, j, d, rfl, hX, hb2⟩
      have K2 := Lib.hid (K1.out.trans (keep_of_below hb2))
      have T2 := Lib.hid (T1.out.below hb2)
      clear hX hb2 K1 T1 HV
      go_wp2_with fail
      refine (HF w2 ((HR.out.keep K2.out).tail hk1).row).out.mono ?_
      rintro e w3 ⟨rfl, hb3⟩
      have K3 := Lib.hid (K2.out.trans (keep_of_below hb3))
      have T3 := Lib.hid (T2.out.below hb3)
      clear hb3 K2 T2 HF
      go_wp2_with fail
      go_ret3
      exact ⟨⟨by rw [hr.out]; rfl, K3.out⟩, T3.out.mono (by omega)⟩
    · obtain ⟨q, hq⟩ := Option.ne_none_iff_exists'.1 h4
      rw [hq] at htk
      have HF := fun w (h : Row cb w (tailA A c k1) (n - k1) (c - k1) (b.drop k1)) => Lib.hid (takeFixed_at h (v := q) (e := 0) (.inr ⟨hq, rfl⟩))
      have hr : Hid (tk b = if ((q : Int) != (sumOf v : Int)) = true then none else some (v, k1 + 4)) := by
        show _ = _
        rw [htk]
        by_cases hqs : q = sumOf v
        · subst hqs; simp
        · rw [if_neg (by simpa using hqs), if_pos (by simp; omega)]
      have HS := fun w0 a n c (ht : Tk g k w0) (h : RowO g w0 a n c v) => Lib.hid (sum_one ht (by omega) h (c := c) rfl)
      clear htk h4 hq
      generalize sumOf v = sv at *
      rcases hqv : ((q : Int) != (sv : Int))
      all_goals
        go_enter Try.func29, Try.ntmps29
        go_wp2_with fail
        generalize w.alloc (.cells #[.pointer (some ⟨g, 0, none⟩)] 60) = w1 at *
        refine (HV w1 (HR.out.keep K1.out).row).out.mono ?_
        rintro e w2 ⟨X, j, d, rfl, hX, hb2⟩
        have K2 := Lib.hid (K1.out.trans (keep_of_below hb2))
        have T2 := Lib.hid (T1.out.below hb2)
        have O2 := Lib.hid (hX.mono (base' := w.heap.size) (by have := s1.out; omega))
        have h2 := (hb2.block _ s1.out).trans hh.out
        have s2 := Lib.hid (Nat.lt_of_lt_of_le s1.out hb2.size)
        have hh2 := Lib.hid h2
        clear hX hb2 K1 T1 HV s1 hh h2
        go_wp2_with fail
        refine (HF w2 ((HR.out.keep K2.out).tail hk1).row).out.mono ?_
        rintro e w3 ⟨rfl, hb3⟩
        have K3 := Lib.hid (K2.out.trans (keep_of_below hb3))
        have T3 := Lib.hid (T2.out.below hb3)
        have O3 := Lib.hid (O2.out.below hb3)
        have c0 : w3.cell? ⟨w.heap.size, 0, none⟩ = some (.pointer (some ⟨g, 0, none⟩)) := cell_of_row _ _ _ _ _ _ ((hb3.block _ s2.out).trans hh2.out)
        have hjv := O3.out.len
        have R3 := Lib.hid (RowO.of_own O3.out (by omega) hg)
        clear hb3 K2 T2 HF O2 hh2 s2 hjv
        go_wp2_with fail
        refine (HS w3 X j d T3.out R3.out).out.mono ?_
        rintro e w4 ⟨rfl, hK4, hT4⟩
        have O4 := Lib.hid (Owns.keepG O3.out hg hK4)
        have K4 := Lib.hid (K3.out.trans hK4)
        have T4 := Lib.hid hT4
        clear hK4 hT4 K3 T3 O3 c0 R3 HS
        go_wp2_with fail
        go_ret3
      · exact ⟨⟨by rw [hr.out, if_neg (by rw [hqv]; simp)]; exact ⟨X, j, d, by rw [Int.natCast_add]; rfl, O4.out⟩, K4.out⟩, T4.out⟩
      · exact ⟨⟨by rw [hr.out, if_pos hqv]; rfl, K4.out⟩, T4.out⟩
  · have hr : Hid (tk b = none) := by show _ = _; rw [htk, if_neg he]
    obtain ⟨rfl, rfl, h3⟩ := vec1_bad hv he
    clear htk he hv
    rcases h3 with rfl | rfl | rfl
    all_goals
      go_enter Try.func29, Try.ntmps29
      go_wp2_with fail
      generalize w.alloc (.cells #[.pointer (some ⟨g, 0, none⟩)] 60) = w1 at *
      refine (HV w1 (HR.out.keep K1.out).row).out.mono ?_
      rintro e w2 ⟨X, j, d, rfl, hX, hb2⟩
      have K2 := Lib.hid (K1.out.trans (keep_of_below hb2))
      have T2 := Lib.hid (T1.out.below hb2)
      clear hX hb2 K1 T1 HV
      go_wp2_with fail
      go_ret3
      exact ⟨⟨by rw [hr.out]; rfl, K2.out⟩, T2.out.mono (by omega)⟩

/-- What takeHead tells. -/
def TookH (w : World) (o : Option Hdr) (en : Ending) (w' : World) : Prop :=
  (match o with
   | none => en = .returned (.tuple #[.agg #[.int .i64 0, .int .i64 0, .int .i64 0], .bool false])
   | some h => en = .returned (.tuple #[hdV h, .bool true])) ∧ Below w.heap.size w w'

theorem results_cell_row_tmp {P : Program} {fn : Func} {p u : Tmp} {ty : TypeId} (h : fn.results = #[.cell p ty, .tmp u]) (tmps : Array Value) (w : World) (g : Nat) (t : TypeId) (cs : Array Value) (fr : Nat × Nat) (d : TypeDesc)
    (hp : tmps.getD p undef = .pointer (some ⟨g, 0, none⟩)) (hg : w.heap[g]? = some (.cells cs t fr))
    (hu : P.underlying ty = some d) (hd : (match d with | .struct _ | .array _ _ => true | _ => false) = true) (hi : (P.info? ty).map (·.size) = some cs.size) :
    (results fn tmps).run P w = .ok (.tuple #[.agg cs, tmps.getD u undef]) w := by
  rw [results_cell_tmp h]
  have hp' : tmps[p]?.getD undef = .pointer (some ⟨g, 0, none⟩) := by simpa using hp
  simp [hp', asAddr, run_loadVar_row w g t ty cs fr d hg hu hd hi]
/-- A block whose cells are known, none frozen. -/
def Cells (w : World) (g : Nat) (t : TypeId) (cs : Array Value) : Prop := w.heap[g]? = some (.cells cs t (0, 0))
theorem Cells.below {w w' : World} {g : Nat} {t : TypeId} {cs : Array Value} (h : Cells w g t cs) (hb : Below w.heap.size w w') : Cells w' g t cs := (hb.block _ (Array.getElem?_eq_some_iff.1 h).1).trans h
theorem Cells.lt {w : World} {g : Nat} {t : TypeId} {cs : Array Value} (h : Cells w g t cs) : g < w.heap.size := (Array.getElem?_eq_some_iff.1 h).1
theorem Cells.cell {w : World} {g : Nat} {t : TypeId} {cs : Array Value} (h : Cells w g t cs) (i : Nat) : w.cell? ⟨g, i, none⟩ = cs[i]? := cell_of_row _ _ _ _ _ _ h
theorem Cells.frozen {w : World} {g : Nat} {t : TypeId} {cs : Array Value} (h : Cells w g t cs) (i : Nat) : w.frozen? ⟨g, i, none⟩ = false := frozen_of h i
theorem Cells.set_ {w : World} {g : Nat} {t : TypeId} {cs : Array Value} (h : Cells w g t cs) (i : Nat) (v : Value) : Cells (w.setCell ⟨g, i, none⟩ v) g t (cs.setIfInBounds i v) := heap_set h i v
theorem Cells.set_other {w : World} {g g' : Nat} {t : TypeId} {cs : Array Value} (h : Cells w g t cs) (hne : g' ≠ g) (i : Nat) (v : Value) : Cells (w.setCell ⟨g', i, none⟩ v) g t cs := (Below.heap_setCell _ _ _ _ (Ne.symm hne)).trans h

theorem own_block {α : Type} {f : α → Value} {e : TypeId} {base : Nat} {w : World} {b o n c : Nat} {l : List α} (h : Owns f e base w (.slice (some ⟨b, o, none⟩) n c) n l) : base ≤ b := by
  rcases h.2 with ⟨hs, -⟩ | ⟨q, cap, cur, hs, hb, -⟩
  · cases hs
  · injection hs with h1
    injection h1 with h1
    injection h1 with h1
    omega
theorem cell_set_other (w : World) (p q : Addr) (v : Value) (h : q.block ≠ p.block) : (w.setCell p v).cell? q = w.cell? q := World.cell?_of_block (Below.heap_setCell _ _ _ _ h)

theorem three_other {w : World} {g b i : Nat} (h : b ≠ g) (v0 v1 v2 : Value) : (((w.setCell ⟨g, 0, none⟩ v0).setCell ⟨g, 1, none⟩ v1).setCell ⟨g, 2, none⟩ v2).cell? ⟨b, i, none⟩ = w.cell? ⟨b, i, none⟩ := by
  rw [cell_set_other _ _ _ _ h, cell_set_other _ _ _ _ h, cell_set_other _ _ _ _ h]

set_option maxRecDepth 100000 in
set_option maxHeartbeats 1600000 in
theorem takeHead_any {A : Option Addr} {n c : Nat} {x : List B8} {w : World} (h : Row cb w A n c x) (hn : n ≤ 1000000) :
    Calls Try.prog 30 #[.slice A n c] w (TookH w (takeHead x)) := by
  have HR := Lib.hid h
  rcases hi : ints 4 x with ⟨l, k1, e1⟩
  have HI := fun w (h : Row cb w A n c x) => Lib.hid (takeNums_at h (Nat.le_trans hn (by omega)) 4 (by omega) hi)
  have L1 := Lib.hid ((Below.refl w.heap.size w).alloc (Nat.le_refl _) (.cells #[.int .i64 0, .int .i64 0, .int .i64 0] 23))
  have C1 : Hid (Cells (w.alloc (.cells #[.int .i64 0, .int .i64 0, .int .i64 0] 23)) w.heap.size 23 #[.int .i64 0, .int .i64 0, .int .i64 0]) := heap_alloc_new w _
  have hth : takeHead x = if e1 = 0 ∧ k1 = x.length ∧ l.getD 0 0 = 0 then some ⟨(l.getD 1 0 : Nat), (l.getD 2 0 : Nat), (l.getD 3 0 : Nat)⟩ else none := by unfold takeHead; rw [hi]
  have hlen := h.len
  rw [hlen] at hth
  clear h
  by_cases he : e1 = 0
  · subst he
    obtain ⟨a1, a2, a3, a4⟩ := ints_one _ _ _ _ hi
    match l, a1 with
    | [p0, p1, p2, p3], _ =>
      simp only [List.getD_cons_zero, List.getD_cons_succ, true_and] at hth
      have hr := Lib.hid hth
      clear hth hi a1 a2 a3 a4 hlen
      generalize takeHead x = th at *
      go_enter Try.func30, Try.ntmps30
      go_wp2_with fail
      generalize w.alloc (.cells #[.int .i64 0, .int .i64 0, .int .i64 0] 23) = w1 at *
      refine (HI w1 (HR.out.below L1.out)).out.mono ?_
      rintro e w2 ⟨X, j, d, rfl, hX, hb2⟩
      have L2 := Lib.hid (L1.out.trans (hb2.mono L1.out.size))
      have C2 := Lib.hid (C1.out.below hb2)
      have hj : j = 4 := by have := hX.len; simp [asInts] at this; exact this.symm
      subst hj
      obtain ⟨X', d', e5, hrow⟩ := hX.row (by omega)
      obtain ⟨rfl, -, rfl⟩ : X = X' ∧ 4 = 4 ∧ d = d' := by simpa using e5
      obtain ⟨b, o, rfl, hbl, hc⟩ := hrow.at_ (by omega)
      have hbn : b ≠ w.heap.size := by have := own_block hX; have := C1.out.lt; omega
      have r0 : w2.cell? ⟨b, o, none⟩ = some (.int .i64 (p0 : Int)) := hc 0 p0 rfl
      have r1 : w2.cell? ⟨b, o + 1, none⟩ = some (.int .i64 (p1 : Int)) := hc 1 p1 rfl
      have r2 : w2.cell? ⟨b, o + 2, none⟩ = some (.int .i64 (p2 : Int)) := hc 2 p2 rfl
      have r3 : w2.cell? ⟨b, o + 3, none⟩ = some (.int .i64 (p3 : Int)) := hc 3 p3 rfl
      have c0 := C2.out.cell 0
      have c1 := C2.out.cell 1
      have c2 := C2.out.cell 2
      have f0 := C2.out.frozen 0
      have f1 := C2.out.frozen 1
      have f2 := C2.out.frozen 2
      simp at c0 c1 c2
      clear hc hrow hX hb2 C1 L1 e5 HI hbl
      by_cases hcond : k1 = n ∧ p0 = 0
      · obtain ⟨rfl, rfl⟩ := hcond
        go_wp2_with fail
        refine wp_region_held_drew (S := fun W => W.cell? ⟨b, o + 1, none⟩ = some (.int .i64 (p1 : Int)) ∧ W.cell? ⟨b, o + 2, none⟩ = some (.int .i64 (p2 : Int)) ∧ W.cell? ⟨b, o + 3, none⟩ = some (.int .i64 (p3 : Int)))
          (by kernel_rfl) ⟨r1, r2, r3⟩ (fun hHeld => ?_)
        (first | (refine Reg.take 0 (v := ?_) rfl (by kernel_rfl) (by kernel_rfl) (by kernel_rfl) (fun _ _ _ h => h) (Or.inl ⟨by rfl, ?_⟩) (by assumption) ?_; rotate_left; (focus ((intro W hSW); (try dsimp only at hSW); (try go_split_ands); go_simp; (try (with_reducible rfl)); done))) | (refine Reg.take 0 (v := undef) rfl (by kernel_rfl) (by kernel_rfl) (by kernel_rfl) (fun _ _ _ h => h) (Or.inr ⟨by rfl, rfl⟩) (by assumption) ?_))
        (try simp only [Act.put, List.setIfInBounds_toArray, List.set_cons_zero, List.set_cons_succ])
        (first | (refine Reg.take 1 (v := ?_) rfl (by kernel_rfl) (by kernel_rfl) (by kernel_rfl) (fun _ _ _ h => h) (Or.inl ⟨by rfl, ?_⟩) (by assumption) ?_; rotate_left; (focus ((intro W hSW); (try dsimp only at hSW); (try go_split_ands); go_simp; (try (with_reducible rfl)); done))) | (refine Reg.take 1 (v := undef) rfl (by kernel_rfl) (by kernel_rfl) (by kernel_rfl) (fun _ _ _ h => h) (Or.inr ⟨by rfl, rfl⟩) (by assumption) ?_))
        (try simp only [Act.put, List.setIfInBounds_toArray, List.set_cons_zero, List.set_cons_succ])
        (first | (refine Reg.take 2 (v := ?_) rfl (by kernel_rfl) (by kernel_rfl) (by kernel_rfl) (fun _ _ _ h => h) (Or.inl ⟨by rfl, ?_⟩) (by assumption) ?_; rotate_left; (focus ((intro W hSW); (try dsimp only at hSW); (try go_split_ands); go_simp; (try (with_reducible rfl)); done))) | (refine Reg.take 2 (v := undef) rfl (by kernel_rfl) (by kernel_rfl) (by kernel_rfl) (fun _ _ _ h => h) (Or.inr ⟨by rfl, rfl⟩) (by assumption) ?_))
        (try simp only [Act.put, List.setIfInBounds_toArray, List.set_cons_zero, List.set_cons_succ])
        (first | (refine Reg.take 3 (v := ?_) rfl (by kernel_rfl) (by kernel_rfl) (by kernel_rfl) (fun _ _ _ h => h) (Or.inl ⟨by rfl, ?_⟩) (by assumption) ?_; rotate_left; (focus ((intro W hSW); (try dsimp only at hSW); (try go_split_ands); go_simp; (try (with_reducible rfl)); done))) | (refine Reg.take 3 (v := undef) rfl (by kernel_rfl) (by kernel_rfl) (by kernel_rfl) (fun _ _ _ h => h) (Or.inr ⟨by rfl, rfl⟩) (by assumption) ?_))
        (try simp only [Act.put, List.setIfInBounds_toArray, List.set_cons_zero, List.set_cons_succ])
        (first | (refine Reg.take 4 (v := ?_) rfl (by kernel_rfl) (by kernel_rfl) (by kernel_rfl) (fun _ _ _ h => h) (Or.inl ⟨by rfl, ?_⟩) (by assumption) ?_; rotate_left; (focus ((intro W hSW); (try dsimp only at hSW); (try go_split_ands); go_simp; (try (with_reducible rfl)); done))) | (refine Reg.take 4 (v := undef) rfl (by kernel_rfl) (by kernel_rfl) (by kernel_rfl) (fun _ _ _ h => h) (Or.inr ⟨by rfl, rfl⟩) (by assumption) ?_))
        (try simp only [Act.put, List.setIfInBounds_toArray, List.set_cons_zero, List.set_cons_succ])
        (first | (refine Reg.take 5 (v := ?_) rfl (by kernel_rfl) (by kernel_rfl) (by kernel_rfl) (fun _ _ _ h => h) (Or.inl ⟨by rfl, ?_⟩) (by assumption) ?_; rotate_left; (focus ((intro W hSW); (try dsimp only at hSW); (try go_split_ands); go_simp; (try (with_reducible rfl)); done))) | (refine Reg.take 5 (v := undef) rfl (by kernel_rfl) (by kernel_rfl) (by kernel_rfl) (fun _ _ _ h => h) (Or.inr ⟨by rfl, rfl⟩) (by assumption) ?_))
        (try simp only [Act.put, List.setIfInBounds_toArray, List.set_cons_zero, List.set_cons_succ])
        (first | (refine Reg.take 6 (v := ?_) rfl (by kernel_rfl) (by kernel_rfl) (by kernel_rfl) (fun _ _ _ h => h) (Or.inl ⟨by rfl, ?_⟩) (by assumption) ?_; rotate_left; (focus ((intro W hSW); (try dsimp only at hSW); (try go_split_ands); go_simp; (try (with_reducible rfl)); done))) | (refine Reg.take 6 (v := undef) rfl (by kernel_rfl) (by kernel_rfl) (by kernel_rfl) (fun _ _ _ h => h) (Or.inr ⟨by rfl, rfl⟩) (by assumption) ?_))
        (try simp only [Act.put, List.setIfInBounds_toArray, List.set_cons_zero, List.set_cons_succ])
        (first | (refine Reg.take 7 (v := ?_) rfl (by kernel_rfl) (by kernel_rfl) (by kernel_rfl) (fun _ _ _ h => h) (Or.inl ⟨by rfl, ?_⟩) (by assumption) ?_; rotate_left; (focus ((intro W hSW); (try dsimp only at hSW); (try go_split_ands); go_simp; (try (with_reducible rfl)); done))) | (refine Reg.take 7 (v := undef) rfl (by kernel_rfl) (by kernel_rfl) (by kernel_rfl) (fun _ _ _ h => h) (Or.inr ⟨by rfl, rfl⟩) (by assumption) ?_))
        (try simp only [Act.put, List.setIfInBounds_toArray, List.set_cons_zero, List.set_cons_succ])
        (first | (refine Reg.take 8 (v := ?_) rfl (by kernel_rfl) (by kernel_rfl) (by kernel_rfl) (fun _ _ _ h => h) (Or.inl ⟨by rfl, ?_⟩) (by assumption) ?_; rotate_left; (focus ((intro W hSW); (try dsimp only at hSW); (try go_split_ands); go_simp; (try (with_reducible rfl)); done))) | (refine Reg.take 8 (v := undef) rfl (by kernel_rfl) (by kernel_rfl) (by kernel_rfl) (fun _ _ _ h => h) (Or.inr ⟨by rfl, rfl⟩) (by assumption) ?_))
        (try simp only [Act.put, List.setIfInBounds_toArray, List.set_cons_zero, List.set_cons_succ])
        (first | (refine Reg.take 9 (v := ?_) rfl (by kernel_rfl) (by kernel_rfl) (by kernel_rfl) (fun _ _ _ h => h) (Or.inl ⟨by rfl, ?_⟩) (by assumption) ?_; rotate_left; (focus ((intro W hSW); (try dsimp only at hSW); (try go_split_ands); go_simp; (try (with_reducible rfl)); done))) | (refine Reg.take 9 (v := undef) rfl (by kernel_rfl) (by kernel_rfl) (by kernel_rfl) (fun _ _ _ h => h) (Or.inr ⟨by rfl, rfl⟩) (by assumption) ?_))
        (try simp only [Act.put, List.setIfInBounds_toArray, List.set_cons_zero, List.set_cons_succ])
        refine Reg.step 10 rfl (by kernel_rfl) (by rfl) (fun K hK => ?_)
        go_simp
        refine hK.out _ _ ⟨?_, ?_, ?_⟩ (fun hHeld3 => ?_)
        · simp only [World.cell?_drew]; rw [three_other hbn]; exact r1
        · simp only [World.cell?_drew]; rw [three_other hbn]; exact r2
        · simp only [World.cell?_drew]; rw [three_other hbn]; exact r3
        clear hK K hHeld
        (try simp only [Act.put, List.setIfInBounds_toArray, List.set_cons_zero, List.set_cons_succ])
        (first | (refine Reg.take 11 (v := ?_) rfl (by kernel_rfl) (by kernel_rfl) (by kernel_rfl) (fun _ _ _ h => h) (Or.inl ⟨by rfl, ?_⟩) (by assumption) ?_; rotate_left; (focus ((intro W hSW); (try dsimp only at hSW); (try go_split_ands); go_simp; (try (with_reducible rfl)); done))) | (refine Reg.take 11 (v := undef) rfl (by kernel_rfl) (by kernel_rfl) (by kernel_rfl) (fun _ _ _ h => h) (Or.inr ⟨by rfl, rfl⟩) (by assumption) ?_))
        (try simp only [Act.put, List.setIfInBounds_toArray, List.set_cons_zero, List.set_cons_succ])
        refine wpAnyH_done (by kernel_rfl) ?_ _
        have H3 := fun v0 v1 v2 => ((C2.out.set_ 0 v0).set_ 1 v1).set_ 2 v2
        have L3 := fun v0 v1 v2 => ((L2.out.setCell (p := ⟨w.heap.size, 0, none⟩) (Nat.le_refl _) v0).setCell (p := ⟨w.heap.size, 1, none⟩) (Nat.le_refl _) v1).setCell (p := ⟨w.heap.size, 2, none⟩) (Nat.le_refl _) v2
        go_wp2_with fail
        (try simp only [Exit.inBlock, Exit.then])
        refine bodyPost_ret_by (results_cell_row_tmp rfl _ _ w.heap.size _ _ _ _ rfl (H3 _ _ _) Try.underlying23 rfl (by kernel_rfl)) rfl ?_
        exact ⟨by rw [hr.out]; rfl, (L3 _ _ _).drew⟩
      · have hq : Hid (th = none) := by show _ = _; rw [hr.out, if_neg hcond]
        have hcond2 : Hid (¬(k1 = n ∧ p0 = 0)) := hcond
        have H3 := fun v0 v1 v2 => ((C2.out.set_ 0 v0).set_ 1 v1).set_ 2 v2
        have L3 := fun v0 v1 v2 => ((L2.out.setCell (p := ⟨w.heap.size, 0, none⟩) (Nat.le_refl _) v0).setCell (p := ⟨w.heap.size, 1, none⟩) (Nat.le_refl _) v1).setCell (p := ⟨w.heap.size, 2, none⟩) (Nat.le_refl _) v2
        clear hcond
        by_cases hk : k1 = n
        · have hkb : ((k1 : Int) != (n : Int)) = false := by rw [hk]; simp
          have hpb : ((p0 : Int) != 0) = true := by
            have : p0 ≠ 0 := fun e => hcond2.out ⟨hk, e⟩
            simp; omega
          clear hk
          go_wp2_with fail
          (try simp only [Exit.inBlock, Exit.then])
          refine bodyPost_ret_by (results_cell_row_tmp rfl _ _ w.heap.size _ _ _ _ rfl (H3 _ _ _) Try.underlying23 rfl (by kernel_rfl)) rfl ?_
          exact ⟨by rw [hq.out]; rfl, L3 _ _ _⟩
        · have hkb : ((k1 : Int) != (n : Int)) = true := by simp; omega
          clear hk
          go_wp2_with fail
          (try simp only [Exit.inBlock, Exit.then])
          refine bodyPost_ret_by (results_cell_row_tmp rfl _ _ w.heap.size _ _ _ _ rfl (H3 _ _ _) Try.underlying23 rfl (by kernel_rfl)) rfl ?_
          exact ⟨by rw [hq.out]; rfl, L3 _ _ _⟩
  · have hr : Hid (takeHead x = none) := by show _ = _; rw [hth, if_neg (fun h => he h.1)]
    obtain ⟨rfl, rfl, h3⟩ := ints_bad _ _ _ _ _ hi he
    clear hth he hi hlen
    generalize takeHead x = th at *
    rcases h3 with rfl | rfl
    all_goals
      go_enter Try.func30, Try.ntmps30
      go_wp2_with fail
      generalize w.alloc (.cells #[.int .i64 0, .int .i64 0, .int .i64 0] 23) = w1 at *
      refine (HI w1 (HR.out.below L1.out)).out.mono ?_
      rintro e w2 ⟨X, j, d, rfl, hX, hb2⟩
      have L2 := Lib.hid (L1.out.trans (hb2.mono L1.out.size))
      have C2 := Lib.hid (C1.out.below hb2)
      have c0 := C2.out.cell 0
      have c1 := C2.out.cell 1
      have c2 := C2.out.cell 2
      have f0 := C2.out.frozen 0
      have f1 := C2.out.frozen 1
      have f2 := C2.out.frozen 2
      simp at c0 c1 c2
      clear hX hb2 C1 L1 HI
      have H3 := fun v0 v1 v2 => ((C2.out.set_ 0 v0).set_ 1 v1).set_ 2 v2
      have L3 := fun v0 v1 v2 => ((L2.out.setCell (p := ⟨w.heap.size, 0, none⟩) (Nat.le_refl _) v0).setCell (p := ⟨w.heap.size, 1, none⟩) (Nat.le_refl _) v1).setCell (p := ⟨w.heap.size, 2, none⟩) (Nat.le_refl _) v2
      go_wp2_with fail
      (try simp only [Exit.inBlock, Exit.then])
      refine bodyPost_ret_by (results_cell_row_tmp rfl _ _ w.heap.size _ _ _ _ rfl (H3 _ _ _) Try.underlying23 rfl (by kernel_rfl)) rfl ?_
      exact ⟨by rw [hr.out]; rfl, L3 _ _ _⟩
end Seg
end Go.Proofs.Ytedandbkdjmfhaa
