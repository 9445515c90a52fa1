/-
  wire: Take, takeInt, AND TakeFixed: HOW NUMBERS ARE READ.
-/
import Derived.Test.YtedandbkdjmfhaaWireNums
import Derived.Test.YtedandbkdjmfhaaWireBack
namespace Go.Proofs.Ytedandbkdjmfhaa
open Go.RowKit Go.Shelf Mem
attribute [local go_sem] Oper.semAt_some
namespace Wire

theorem gave_row {α : Type} {f : α → Value} {e : TypeId} {base : Nat} {w' : World} {l : List α} {A : Option Addr} {k c : Nat} (h : Owns f e base w' (.slice A k c) k l) (hl : l.length ≤ 140737488351232) : Row f w' A k c l ∧ k = l.length := by
  obtain ⟨A', c', e3, hrow⟩ := h.row (by have := h.len; omega)
  obtain ⟨rfl, -, rfl⟩ : A = A' ∧ k = k ∧ c = c' := by simpa using e3
  exact ⟨hrow, h.len.symm⟩

/-- What has come so far, as the program reckons it. -/
def accW (pre : List B8) : Nat := (pre.foldl (fun a x => a * 128 + x.toNat % 128) 0) % 18446744073709551616
theorem accW_snoc (pre : List B8) (x : B8) : accW (pre ++ [x]) = (accW pre * 128 + x.toNat % 128) % 18446744073709551616 := by
  unfold accW
  rw [List.foldl_append]
  simp only [List.foldl_cons, List.foldl_nil]
  omega
theorem accW_lt (pre : List B8) : accW pre < 18446744073709551616 := Nat.mod_lt _ (by omega)
theorem fold_dec : ∀ (l : List B8), l.reverse.foldl (fun a x => a * 128 + x.toNat % 128) 0 = dec l := by
  intro l
  induction l with
  | nil => rfl
  | cons x l ih => rw [List.reverse_cons, List.foldl_append, ih]; simp only [List.foldl_cons, List.foldl_nil, dec]; omega
theorem accW_rev (l : List B8) (h : dec l < 18446744073709551616) : accW l.reverse = dec l := by
  unfold accW; rw [fold_dec]; omega
/-- One step of it. -/
theorem or_step (a : Nat) (x : B8) : bits .or .u64 (IntKind.u64.wrap ((a : Int) * 128)) (IntKind.u64.wrap (bits .andNot .u8 (u x) 128)) = (((a * 128 + x.toNat % 128) % 18446744073709551616 : Nat) : Int) := by
  have hx := x.isLt
  have h1 := u8_andNot_nat x.toNat 128 (by omega) (by omega)
  have e1 : bits .andNot .u8 (u x) 128 = ((x.toNat &&& 127 : Nat) : Int) := h1
  have hw : ∀ n : Int, IntKind.u64.wrap n = n % 18446744073709551616 := fun n => by simp [IntKind.wrap, IntKind.bits, IntKind.signed]
  rw [e1, nat_mask7, hw, hw]
  have e2 : (a : Int) * 128 % 18446744073709551616 = ((a * 128 % 18446744073709551616 : Nat) : Int) := by omega
  have e3 : ((x.toNat % 128 : Nat) : Int) % 18446744073709551616 = ((x.toNat % 128 : Nat) : Int) := by omega
  rw [e2, e3, u64_or_nat _ _ (by omega) (by omega)]
  have := nat_join 7 (a * 128 % 18446744073709551616) (x.toNat % 128) (by omega) (by omega)
  rw [this]
  omega

/-- What Take tells. -/
def Took (l : List B8) (w : World) (e : Ending) (w' : World) : Prop := e = .returned (.tuple #[.int .u64 ((take1 l).1 : Int), .int .i64 ((take1 l).2.1 : Int), .int .i64 ((take1 l).2.2 : Int)]) ∧ Below w.heap.size w w'

set_option maxRecDepth 100000 in
set_option maxHeartbeats 2000000 in
theorem take_in (F : Fence) (n : Nat) (hw : F = Fence.wide) (hn : 3 ≤ n) (A : Option Addr) (len cap : Nat) (l : List B8) (w : World) (h : Row cb w A len cap l) :
    CallsIn F n Try.prog 56 #[.slice A len cap] w (Took l w) := by
  subst hw
  have h1 : 1 ≤ n := by omega
  refine callsIn_of_wp_marks Try.func56 rfl trivial ?_ rfl
  simp only [Try.ntmps56, List.size_toArray, List.length_cons, List.length_nil, Nat.reduceAdd, Nat.reduceSub, Array.replicate_succ, Array.replicate_zero, List.push_toArray, List.append_toArray, List.nil_append, List.cons_append]
  have HR := Lib.hid h
  clear h
  rcases hs : scan 0 l with ⟨k, e⟩
  have HS := Lib.hid hs
  clear hs
  by_cases he : e = 0
  · subst he
    have hT := Lib.hid (scan_one l 0 k (by omega) HS.out)
    have HTK : Hid (take1 l = (dec (l.take k), k, 0)) := by show _ = _; unfold take1; rw [HS.out]; rfl
    have HD : Hid (dec (l.take k) < 18446744073709551616) := by have := (take1_one HTK.out).2.2.2.2.1; exact this
    have hk0 : 0 < k := by obtain ⟨j, hj, -⟩ := hT.out; omega
    have hkn : k ≤ len := by obtain ⟨j, hj, hl, -⟩ := hT.out; have := HR.out.len; omega
    have hbig := HR.out.big
    have hcap := HR.out.cap
    have hslice := run_head A len cap k (by omega)
    gi_wp2_with (first
      | (refine ⟨trivial, ?_⟩; gi_at_call 61; refine (callsIn_wide.2 (length_any _ _ _ l _ HR.out)).mono ?_; unfold Told; rw [HS.out]; rintro e w' ⟨rfl, rfl⟩)
      | (refine ⟨trivial, ?_⟩; gi_at_call 53; refine (back_in Fence.wide (n - 1) trivial rfl _ _ _ _).mono ?_; rintro e w' ⟨rfl, rfl⟩))
    obtain ⟨b, o, rfl, hblt, hcell⟩ := HR.out.at_ (by omega)
    have HC := Lib.hid hcell
    clear hcell hslice
    have bN := Boxed.new w 109 (.int .u64 0)
    have bS := Boxed.new (w.alloc (.cells #[.int .u64 0] 109)) 27 (.slice (some ⟨b, o, none⟩) k cap)
    rw [World.size_alloc] at bS
    have hB0 : Below w.heap.size w ((w.alloc (.cells #[.int .u64 0] 109)).alloc (.cells #[.slice (some ⟨b, o, none⟩) k cap] 27)) := ((Below.refl _ w).alloc (Nat.le_refl _) _).alloc (by simp) _
    have hlen : (l.take k).length = k := by have := HR.out.len; simp; omega
    refine wpIn_rangeFunc_ownF rfl h1 (gf := 57) (lb := #[.pointer (some ⟨w.heap.size + 1, 0, none⟩)]) rfl trivial (enters_of Try.func57 (by kernel_rfl) rfl)
      (back_stops Fence.wide (n - 1) trivial rfl (by omega) (w.heap.size + 1) (w.heap.size + 2) w.heap.size (by omega) (by omega) b o k cap (by omega) (by omega) (l.take k) hlen (by omega) _ (by simp) bS.cell
        (fun j x hx => by
          rw [List.getElem?_take] at hx
          split at hx
          · exact (hB0.cell (p := ⟨b, o + j, none⟩) hblt).trans (HC.out j x hx)
          · cases hx))
      (fun h k => h.trans k) (kept_b (by simp)) (Below.refl _ _) (fun _ => rfl)
      (fun pre W => (W.cell? ⟨w.heap.size, 0, none⟩ = some (.int .u64 (accW (pre.map (·.2)) : Int)) ∧ W.frozen? ⟨w.heap.size, 0, none⟩ = false) ∧ Below w.heap.size w W)
      (fun _ _ _ => False)
      (OwnFrom.and (Own.from (fun s A B row hs hg hr => ⟨cell_kept hs.1 hg hr, (frozen_kept hs.1 hg hr).trans hs.2⟩) _) (ownFrom_below (Nat.le_refl _) (by simp; omega)))
      (fun _ _ _ _ _ hs _ _ => hs)
      ⟨⟨(bN.alloc _).cell, (bN.alloc _).frozen⟩, hB0⟩
      (fun x => { tmps := #[.slice (some ⟨b, o, none⟩) len cap, undef, .int .u64 0, .int .i64 0, .int .i64 0, .int .i64 k, .int .i64 0, .pointer (some ⟨w.heap.size, 0, none⟩), undef, .int .u8 (u x.2), .tuple #[.int .i64 k, .int .i64 0], .slice (some ⟨b, o, none⟩) len cap,
          .tuple #[.int .i64 k, .int .i64 0], .int .i64 k, .int .i64 0, .int .i64 0, .bool false, undef, .slice (some ⟨b, o, none⟩) len cap, .int .i64 k, .slice (some ⟨b, o, none⟩) k cap, .func (.func 57) #[] #[.pointer (some ⟨w.heap.size + 1, 0, none⟩)],
          .int .i64 (x.1 : Int), .int .u8 (u x.2), undef, undef, undef, undef, undef, undef, undef, undef], defers := [] }) ?assign ?body ?done ?stop
    case assign =>
      intro l x W K hK
      gi_wp2
      exact hK
    case body =>
      rintro l pre x W ⟨⟨hc, hf⟩, hB⟩ _
      have E := Lib.hid (or_step (accW (pre.map (·.2))) x.2)
      have hlt := accW_lt (pre.map (·.2))
      have E2 : Hid (accW ((pre ++ [x]).map (·.2)) = (accW (pre.map (·.2)) * 128 + x.2.toNat % 128) % 18446744073709551616) := by show _ = _; rw [List.map_append]; exact accW_snoc _ _
      generalize accW (pre.map (·.2)) = a at *
      gi_wp2
      exact ⟨KeepsOthers.setCell _ _ _, Kept.setCell _ _ _, ⟨by rw [E2.out, ← E.out]; exact World.cell?_setCell_same' _ _ _ (by rw [hc]; rfl), by rw [World.frozen?_setCell]; exact hf⟩, hB.setCell (p := ⟨w.heap.size, 0, none⟩) (Nat.le_refl _) _⟩
    case done =>
      rintro D ys W hD hys ⟨⟨hc, _⟩, hB⟩ hK
      gi_wp2
      refine ⟨by simp, .inl ⟨_, _, rfl, run_takeDeferred hK, ?_⟩⟩
      refine ⟨.tuple #[.int .u64 ((dec (l.take k) : Nat) : Int), .int .i64 k, .int .i64 0], ?_, ?_, ?_⟩
      · have := accW_rev (l.take k) HD.out
        rw [this]
        simp [results, Try.f56, go_sem]
      · rw [HTK.out]; rfl
      · exact hB.trans (belowK_b (w := w) (Nat.le_refl _) W D _ _ (by simp at hD; omega) hK rfl rfl)
    case stop =>
      rintro D c pre W _ _ h _
      exact h.elim
  · have h2 := scan_bad l 0 k e HS.out he
    obtain ⟨rfl, h3⟩ := h2
    have HTK : Hid (take1 l = (0, 0, e)) := by show _ = _; unfold take1; rw [HS.out]; simp [he]
    clear he
    rcases h3 with rfl | rfl
    all_goals
      gi_wp2_with (refine ⟨trivial, ?_⟩; gi_at_call 61; refine (callsIn_wide.2 (length_any _ _ _ l _ HR.out)).mono ?_; unfold Told; rw [HS.out]; rintro e w' ⟨rfl, rfl⟩)
      first
        | exact ⟨.tuple #[.int .u64 0, .int .i64 0, .int .i64 20], by simp [results, Try.f56, go_sem], by rw [HTK.out]; rfl, Below.refl _ _⟩
        | exact ⟨.tuple #[.int .u64 0, .int .i64 0, .int .i64 21], by simp [results, Try.f56, go_sem], by rw [HTK.out]; rfl, Below.refl _ _⟩

theorem take_any (A : Option Addr) (len cap : Nat) (l : List B8) (w : World) (h : Row cb w A len cap l) :
    Calls Try.prog 56 #[.slice A len cap] w (Took l w) := (callsIn_wide (n := 3)).1 (take_in Fence.wide 3 rfl (Nat.le_refl _) A len cap l w h)

/-- .. at a known answer. -/
theorem take_at {A : Option Addr} {len cap : Nat} {l : List B8} {w : World} (h : Row cb w A len cap l) {n k e : Nat} (ht : take1 l = (n, k, e)) :
    Calls Try.prog 56 #[.slice A len cap] w fun en w' => en = .returned (.tuple #[.int .u64 (n : Int), .int .i64 (k : Int), .int .i64 (e : Int)]) ∧ Below w.heap.size w w' :=
  (take_any A len cap l w h).mono fun en w' h => by unfold Took at h; rw [ht] at h; exact h

theorem wrap_small (n : Nat) (h : n < 9223372036854775808) : IntKind.i64.wrap (n : Int) = n := by
  simp [IntKind.wrap, IntKind.bits, IntKind.signed]; omega

set_option maxRecDepth 100000 in
set_option maxHeartbeats 800000 in
theorem takeInt_at {A : Option Addr} {len cap : Nat} {l : List B8} {w : World} (h : Row cb w A len cap l) {n k e : Nat} (ht : int1 l = (n, k, e)) :
    Calls Try.prog 52 #[.slice A len cap] w fun en w' => en = .returned (.tuple #[.int .i64 (n : Int), .int .i64 (k : Int), .int .i64 (e : Int)]) ∧ Below w.heap.size w w' := by
  have HR := Lib.hid h
  rcases hs : take1 l with ⟨n1, k1, e1⟩
  have HS := Lib.hid hs
  clear h
  unfold int1 at ht
  rw [hs] at ht
  by_cases he : e1 = 0
  · subst he
    simp only [if_pos] at ht
    by_cases hb : 9223372036854775807 < n1
    · rw [if_pos hb] at ht
      simp only [Prod.mk.injEq] at ht
      obtain ⟨rfl, rfl, rfl⟩ := ht
      have hd : decide (9223372036854775807 < (n1 : Int)) = true := by simp; omega
      clear hs hb
      go_enter Try.func52, Try.ntmps52
      go_wp2_with (go_at_call 56; refine (take_at HR.out HS.out).mono ?_; rintro en w' ⟨rfl, hb⟩; have HB := Lib.hid hb; clear hb)
      go_ret3
      exact ⟨rfl, HB.out⟩
    · rw [if_neg hb] at ht
      simp only [Prod.mk.injEq] at ht
      obtain ⟨rfl, rfl, rfl⟩ := ht
      have hd : decide (9223372036854775807 < (n1 : Int)) = false := by simp; omega
      have hw := wrap_small n1 (by omega)
      clear hs hb
      go_enter Try.func52, Try.ntmps52
      go_wp2_with (go_at_call 56; refine (take_at HR.out HS.out).mono ?_; rintro en w' ⟨rfl, hb⟩; have HB := Lib.hid hb; clear hb)
      go_ret3
      exact ⟨rfl, HB.out⟩
  · rw [if_neg he] at ht
    simp only [Prod.mk.injEq] at ht
    obtain ⟨rfl, rfl, rfl⟩ := ht
    obtain ⟨rfl, rfl, h3, -⟩ := take1_bad hs he
    clear hs he
    rcases h3 with rfl | rfl
    all_goals
      go_enter Try.func52, Try.ntmps52
      go_wp2_with (go_at_call 56; refine (take_at HR.out HS.out).mono ?_; rintro en w' ⟨rfl, hb⟩; have HB := Lib.hid hb; clear hb)
      go_ret3
      exact ⟨rfl, HB.out⟩
end Wire
end Go.Proofs.Ytedandbkdjmfhaa
