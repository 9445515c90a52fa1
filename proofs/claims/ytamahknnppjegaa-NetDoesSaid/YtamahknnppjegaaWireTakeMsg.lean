/-
  wire: TakeMsg, AND THE DOCUMENT's OWN COMPARISON OF MESSAGES.
-/
import Derived.Test.YtamahknnppjegaaWireMsg
import Derived.Deep.RegionHeld3
import Derived.Deep.DeepCutAuto
namespace Go.Proofs.Ytamahknnppjegaa
open Go.RowKit Mem
namespace Wire

/-- What TakeMsg tells of a message that is whole. -/
def TookM (k f t i : Nat) (a : List Nat) (v : List B8) (n : Nat) (w : World) (en : Ending) (w' : World) : Prop :=
  ∃ A ka ca B kb cb', en = .returned (.tuple #[.agg #[.int .i64 k, .int .i64 f, .int .i64 t, .int .i64 i, .slice A ka ca, .slice B kb cb'], .int .i64 (n : Int), .int .i64 0]) ∧
    Owns ci 3 w.heap.size w' (.slice A ka ca) ka (asInts a) ∧ Owns cb 5 w.heap.size w' (.slice B kb cb') kb v ∧ Below w.heap.size w w'
/-- .. of one that is not. -/
def NotM (e : Nat) (w : World) (en : Ending) (w' : World) : Prop :=
  en = .returned (.tuple #[.agg #[.int .i64 0, .int .i64 0, .int .i64 0, .int .i64 0, .slice none 0 0, .slice none 0 0], .int .i64 0, .int .i64 (e : Int)]) ∧ Below w.heap.size w w'

/-- .. nor may what lies in it not be written. -/
theorem box_free {w w2 : World} {cs : Array Value} {T : TypeId} (h : Below (w.heap.size + 1) (w.alloc (.cells cs T)) w2) (o : Nat) : w2.frozen? ⟨w.heap.size, o, none⟩ = false := by
  rw [h.frozen (p := ⟨w.heap.size, o, none⟩) (by simp)]
  have hh := heap_alloc_new w (.cells cs T)
  simp only [World.frozen?, hh]
  simp
theorem takeNums_five {A : Option Addr} {n c : Nat} {b : List B8} {w : World} (h : Row cb w A n c b) (hn : n ≤ 100000000) {l : List Nat} {kk ee : Nat} (hi : ints 5 b = (l, kk, ee)) :
    Calls Try.prog 56 #[.slice A n c, .int .i64 5] w (TookN l kk ee w) := takeNums_at h hn 5 (by omega) hi
theorem zeroMsg (w : World) : (zeroValue 39).run Try.prog w = .ok (.agg #[.int .i64 0, .int .i64 0, .int .i64 0, .int .i64 0, .slice none 0 0, .slice none 0 0]) w := by kernel_rfl

theorem six_set {w w2 : World} (h : Below w.heap.size w w2) (a b c d e f : Value) : Below w.heap.size w ((((((w2.setCell ⟨w.heap.size, 0, none⟩ a).setCell ⟨w.heap.size, 1, none⟩ b).setCell ⟨w.heap.size, 2, none⟩ c).setCell ⟨w.heap.size, 3, none⟩ d).setCell ⟨w.heap.size, 4, none⟩ e).setCell ⟨w.heap.size, 5, none⟩ f) :=
  (((((h.setCell (p := ⟨w.heap.size, 0, none⟩) (Nat.le_refl _) a).setCell (p := ⟨w.heap.size, 1, none⟩) (Nat.le_refl _) b).setCell (p := ⟨w.heap.size, 2, none⟩) (Nat.le_refl _) c).setCell (p := ⟨w.heap.size, 3, none⟩) (Nat.le_refl _) d).setCell (p := ⟨w.heap.size, 4, none⟩) (Nat.le_refl _) e).setCell (p := ⟨w.heap.size, 5, none⟩) (Nat.le_refl _) f
theorem owns_six {α : Type} {f' : α → Value} {e' : TypeId} {B n : Nat} {s : Value} {l : List α} {w2 : World} (h : Owns f' e' (B + 1) w2 s n l) (a b c d e f : Value) : Owns f' e' (B + 1) ((((((w2.setCell ⟨B, 0, none⟩ a).setCell ⟨B, 1, none⟩ b).setCell ⟨B, 2, none⟩ c).setCell ⟨B, 3, none⟩ d).setCell ⟨B, 4, none⟩ e).setCell ⟨B, 5, none⟩ f) s n l := by
  unfold Owns at *
  have lt : ∀ o, (⟨B, o, none⟩ : Addr).block < B + 1 := fun o => Nat.lt_succ_self B
  exact ownsRow_setCell_below (ownsRow_setCell_below (ownsRow_setCell_below (ownsRow_setCell_below (ownsRow_setCell_below (ownsRow_setCell_below h (lt 0) a) (lt 1) b) (lt 2) c) (lt 3) d) (lt 4) e) (lt 5) f
theorem tail_sum (A : Option Addr) (n c k j : Nat) (h : k + j ≤ n) (w : World) : (Instr.slice 23 (.slice A n c) (some (.int .i64 ((k : Int) + (j : Int)))) none none).run Try.prog w = .ok (.slice (tailA A c (k + j)) (n - (k + j)) (c - (k + j))) w := by
  have := run_tail A n c (k + j) h w
  rwa [Int.natCast_add] at this

set_option maxRecDepth 100000 in
set_option maxHeartbeats 3200000 in
theorem takeMsg_bad {A : Option Addr} {n c : Nat} {b : List B8} {w : World} (h : Row cb w A n c b) (hn : n ≤ 100000000) {hh aa : List Nat} {vv : List B8} {kk ee : Nat} (hm : msg1 b = (hh, aa, vv, kk, ee)) (he : ee ≠ 0) :
    Calls Try.prog 34 #[.slice A n c] w (NotM ee w) := by
  have HR := Lib.hid h
  have hlen := h.len
  have hz := zeroMsg
  unfold msg1 at hm
  rcases h5 : ints 5 b with ⟨l5, k5, e5⟩
  rw [h5] at hm
  have H5 := Lib.hid h5
  clear h
  by_cases c5 : e5 = 0
  · subst c5
    simp only [if_pos] at hm
    obtain ⟨p1, p2, p3, p4⟩ := ints_one 5 b l5 k5 h5
    obtain ⟨x, y, z, i, m, rfl⟩ := five_of p1
    simp only [List.getD_cons_succ, List.getD_cons_zero] at hm
    have hk5 : k5 ≤ n := by omega
    clear p1 p2 p3 p4 h5
    by_cases c6 : 64 < m
    · rw [if_pos c6] at hm
      simp only [Prod.mk.injEq] at hm
      obtain ⟨-, -, -, -, rfl⟩ := hm
      clear he hlen
      go_enter Try.func34, Try.ntmps34
      go_wp2_with (go_at_call 56; ((with_reducible refine (takeNums_five (HR.out.alloc _) hn H5.out).mono ?_); rintro e w2 ⟨X, j, d, rfl, hX, hb⟩; have b2 : Below (w.heap.size + 1) (w.alloc (.cells #[.int .i64 0, .int .i64 0, .int .i64 0, .int .i64 0, .slice none 0 0, .slice none 0 0] 39)) w2 := (by rw [World.size_alloc] at hb; exact hb); have hc2 := box_cell b2; have hf2 := box_free b2; have B2 := Lib.hid b2; obtain ⟨hx, hj⟩ := gave_row hX (by simp [asInts]); obtain ⟨hb0, ho0, e0, hlt0, hcell⟩ := hx.at_ (by rw [hj]; simp [asInts]); subst e0; have h04 : w2.cell? ⟨hb0, ho0 + 4, none⟩ = some (.int .i64 m) := hcell 4 _ rfl; have HX := Lib.hid hx; have R2 := Lib.hid ((HR.out.below (((Below.refl _ w).alloc (Nat.le_refl _) _).trans (b2.mono (by omega)))).tail (k := k5) (by omega)); have hj5 : j = 5 := (by rw [hj]; simp [asInts]); subst hj5; clear hj hcell hx; clear b2 hb hX))
      exact bodyPost_ret (v := .tuple #[.agg #[.int .i64 0, .int .i64 0, .int .i64 0, .int .i64 0, .slice none 0 0, .slice none 0 0], .int .i64 0, .int .i64 2]) (by simp [results, Try.f34, go_sem, hc2]) rfl ⟨rfl, six_set (((Below.refl _ w).alloc (Nat.le_refl _) _).trans (B2.out.mono (by omega))) _ _ _ _ _ _⟩
    · rw [if_neg c6] at hm
      rcases hA : ints m (b.drop k5) with ⟨la, ka, ea⟩
      rw [hA] at hm
      have HA := Lib.hid hA
      have hs1 := run_tail A n c k5 hk5
      by_cases ca : ea = 0
      · subst ca
        simp only [if_pos] at hm
        obtain ⟨q1, q2, -, -⟩ := ints_one m _ la ka hA
        rw [List.length_drop] at q2
        have hka : k5 + ka ≤ n := by omega
        clear q1 q2 hA
        rcases hV : vec1 (b.drop (k5 + ka)) with ⟨lv, kv, ev⟩
        rw [hV] at hm
        have HV := Lib.hid hV
        have hs2 := tail_sum A n c k5 ka hka
        by_cases cv : ev = 0
        · subst cv
          simp at hm; omega
        · obtain ⟨-, rfl, h3⟩ := vec1_bad hV cv
          simp only [if_neg cv, Prod.mk.injEq] at hm
          obtain ⟨-, -, -, -, rfl⟩ := hm
          clear he hlen cv hV
          rcases h3 with rfl | rfl | rfl
          all_goals
            go_enter Try.func34, Try.ntmps34
            go_wp2_with (first
              | (go_at_call 56; ((with_reducible refine (takeNums_five (HR.out.alloc _) hn H5.out).mono ?_); rintro e w2 ⟨X, j, d, rfl, hX, hb⟩; have b2 : Below (w.heap.size + 1) (w.alloc (.cells #[.int .i64 0, .int .i64 0, .int .i64 0, .int .i64 0, .slice none 0 0, .slice none 0 0] 39)) w2 := (by rw [World.size_alloc] at hb; exact hb); have hc2 := box_cell b2; have hf2 := box_free b2; have B2 := Lib.hid b2; obtain ⟨hx, hj⟩ := gave_row hX (by simp [asInts]); obtain ⟨hb0, ho0, e0, hlt0, hcell⟩ := hx.at_ (by rw [hj]; simp [asInts]); subst e0; have h04 : w2.cell? ⟨hb0, ho0 + 4, none⟩ = some (.int .i64 m) := hcell 4 _ rfl; have HX := Lib.hid hx; have R2 := Lib.hid ((HR.out.below (((Below.refl _ w).alloc (Nat.le_refl _) _).trans (b2.mono (by omega)))).tail (k := k5) (by omega)); have hj5 : j = 5 := (by rw [hj]; simp [asInts]); subst hj5; clear hj hcell hx; clear b2 hb hX))
              | (go_at_call 56; ((with_reducible refine (takeNums_at R2.out (by omega) m (by omega) HA.out).mono ?_); rintro e w3 ⟨Y, j3, d3, rfl, hY, hb⟩; have b3 := B2.out.trans (hb.mono (by have := B2.out.size; rw [World.size_alloc] at this; exact this)); have hc3 := box_cell b3; have hf3 := box_free b3; have B3 := Lib.hid b3; have R3 := Lib.hid ((HR.out.below (((Below.refl _ w).alloc (Nat.le_refl _) _).trans (b3.mono (by omega)))).tail (k := k5 + ka) (by omega)); clear b3 hb hY hc2 hf2))
              | (go_at_call 57; ((with_reducible refine (takeVec_at R3.out (by omega) HV.out).mono ?_); rintro e w4 ⟨V, j4, d4, rfl, hV, hb⟩; have b4 := B3.out.trans (hb.mono (by have := B3.out.size; rw [World.size_alloc] at this; omega)); have hc4 := box_cell b4; have hf4 := box_free b4; have B4 := Lib.hid b4;  clear b4 hb hV hc3 hf3)))
          exact bodyPost_ret (v := .tuple #[.agg #[.int .i64 0, .int .i64 0, .int .i64 0, .int .i64 0, .slice none 0 0, .slice none 0 0], .int .i64 0, .int .i64 2]) (by simp [results, Try.f34, go_sem, hc4]) rfl ⟨rfl, six_set (((Below.refl _ w).alloc (Nat.le_refl _) _).trans (B4.out.mono (by omega))) _ _ _ _ _ _⟩
          exact bodyPost_ret (v := .tuple #[.agg #[.int .i64 0, .int .i64 0, .int .i64 0, .int .i64 0, .slice none 0 0, .slice none 0 0], .int .i64 0, .int .i64 20]) (by simp [results, Try.f34, go_sem, hc4]) rfl ⟨rfl, six_set (((Below.refl _ w).alloc (Nat.le_refl _) _).trans (B4.out.mono (by omega))) _ _ _ _ _ _⟩
          exact bodyPost_ret (v := .tuple #[.agg #[.int .i64 0, .int .i64 0, .int .i64 0, .int .i64 0, .slice none 0 0, .slice none 0 0], .int .i64 0, .int .i64 21]) (by simp [results, Try.f34, go_sem, hc4]) rfl ⟨rfl, six_set (((Below.refl _ w).alloc (Nat.le_refl _) _).trans (B4.out.mono (by omega))) _ _ _ _ _ _⟩
      · obtain ⟨-, rfl, h3⟩ := ints_bad _ _ _ _ _ hA ca
        simp only [if_neg ca, Prod.mk.injEq] at hm
        obtain ⟨-, -, -, -, rfl⟩ := hm
        clear he hlen ca hA
        rcases h3 with rfl | rfl
        all_goals
          go_enter Try.func34, Try.ntmps34
          go_wp2_with (first
            | (go_at_call 56; ((with_reducible refine (takeNums_five (HR.out.alloc _) hn H5.out).mono ?_); rintro e w2 ⟨X, j, d, rfl, hX, hb⟩; have b2 : Below (w.heap.size + 1) (w.alloc (.cells #[.int .i64 0, .int .i64 0, .int .i64 0, .int .i64 0, .slice none 0 0, .slice none 0 0] 39)) w2 := (by rw [World.size_alloc] at hb; exact hb); have hc2 := box_cell b2; have hf2 := box_free b2; have B2 := Lib.hid b2; obtain ⟨hx, hj⟩ := gave_row hX (by simp [asInts]); obtain ⟨hb0, ho0, e0, hlt0, hcell⟩ := hx.at_ (by rw [hj]; simp [asInts]); subst e0; have h04 : w2.cell? ⟨hb0, ho0 + 4, none⟩ = some (.int .i64 m) := hcell 4 _ rfl; have HX := Lib.hid hx; have R2 := Lib.hid ((HR.out.below (((Below.refl _ w).alloc (Nat.le_refl _) _).trans (b2.mono (by omega)))).tail (k := k5) (by omega)); have hj5 : j = 5 := (by rw [hj]; simp [asInts]); subst hj5; clear hj hcell hx; clear b2 hb hX))
            | (go_at_call 56; ((with_reducible refine (takeNums_at R2.out (by omega) m (by omega) HA.out).mono ?_); rintro e w3 ⟨Y, j3, d3, rfl, hY, hb⟩; have b3 := B2.out.trans (hb.mono (by have := B2.out.size; rw [World.size_alloc] at this; exact this)); have hc3 := box_cell b3; have hf3 := box_free b3; have B3 := Lib.hid b3;  clear b3 hb hY hc2 hf2)))
        exact bodyPost_ret (v := .tuple #[.agg #[.int .i64 0, .int .i64 0, .int .i64 0, .int .i64 0, .slice none 0 0, .slice none 0 0], .int .i64 0, .int .i64 20]) (by simp [results, Try.f34, go_sem, hc3]) rfl ⟨rfl, six_set (((Below.refl _ w).alloc (Nat.le_refl _) _).trans (B3.out.mono (by omega))) _ _ _ _ _ _⟩
        exact bodyPost_ret (v := .tuple #[.agg #[.int .i64 0, .int .i64 0, .int .i64 0, .int .i64 0, .slice none 0 0, .slice none 0 0], .int .i64 0, .int .i64 21]) (by simp [results, Try.f34, go_sem, hc3]) rfl ⟨rfl, six_set (((Below.refl _ w).alloc (Nat.le_refl _) _).trans (B3.out.mono (by omega))) _ _ _ _ _ _⟩
  · obtain ⟨-, rfl, h3⟩ := ints_bad _ _ _ _ _ H5.out c5
    simp only [if_neg c5, Prod.mk.injEq] at hm
    obtain ⟨-, -, -, -, rfl⟩ := hm
    clear he h5 c5 hlen
    rcases h3 with rfl | rfl
    all_goals
      go_enter Try.func34, Try.ntmps34
      go_wp2_with (go_at_call 56; ((with_reducible refine (takeNums_five (HR.out.alloc _) hn H5.out).mono ?_); rintro e w2 ⟨X, j, d, rfl, hX, hb⟩; have b2 : Below (w.heap.size + 1) (w.alloc (.cells #[.int .i64 0, .int .i64 0, .int .i64 0, .int .i64 0, .slice none 0 0, .slice none 0 0] 39)) w2 := (by rw [World.size_alloc] at hb; exact hb); have hc2 := box_cell b2; have hf2 := box_free b2; have B2 := Lib.hid b2;  clear b2 hb hX))
    exact bodyPost_ret (v := .tuple #[.agg #[.int .i64 0, .int .i64 0, .int .i64 0, .int .i64 0, .slice none 0 0, .slice none 0 0], .int .i64 0, .int .i64 20]) (by simp [results, Try.f34, go_sem, hc2]) rfl ⟨rfl, six_set (((Below.refl _ w).alloc (Nat.le_refl _) _).trans (B2.out.mono (by omega))) _ _ _ _ _ _⟩
    exact bodyPost_ret (v := .tuple #[.agg #[.int .i64 0, .int .i64 0, .int .i64 0, .int .i64 0, .slice none 0 0, .slice none 0 0], .int .i64 0, .int .i64 21]) (by simp [results, Try.f34, go_sem, hc2]) rfl ⟨rfl, six_set (((Below.refl _ w).alloc (Nat.le_refl _) _).trans (B2.out.mono (by omega))) _ _ _ _ _ _⟩
set_option maxRecDepth 100000 in
set_option maxHeartbeats 3200000 in
theorem takeMsg_ok {A : Option Addr} {n c : Nat} {b : List B8} {w : World} (h : Row cb w A n c b) (hn : n ≤ 100000000) {x y z i m : Nat} {aa : List Nat} {vv : List B8} {kk : Nat} (hm : msg1 b = ([x, y, z, i, m], aa, vv, kk, 0)) :
    Calls Try.prog 34 #[.slice A n c] w (TookM x y z i aa vv kk w) := by
  have HR := Lib.hid h
  have hlen := h.len
  have hz := zeroMsg
  unfold msg1 at hm
  rcases h5 : ints 5 b with ⟨l5, k5, e5⟩
  rw [h5] at hm
  by_cases c5 : e5 = 0
  · subst c5
    simp only [if_pos] at hm
    obtain ⟨p1, p2, p3, p4⟩ := ints_one 5 b l5 k5 h5
    by_cases c6 : 64 < l5.getD 4 0
    · rw [if_pos c6] at hm
      simp at hm
    · rw [if_neg c6] at hm
      rcases hA : ints (l5.getD 4 0) (b.drop k5) with ⟨la, ka, ea⟩
      rw [hA] at hm
      by_cases ca : ea = 0
      · subst ca
        simp only [if_pos] at hm
        obtain ⟨q1, q2, -, -⟩ := ints_one _ _ la ka hA
        rw [List.length_drop] at q2
        rcases hV : vec1 (b.drop (k5 + ka)) with ⟨lv, kv, ev⟩
        rw [hV] at hm
        by_cases cv : ev = 0
        · subst cv
          simp only [if_pos, Prod.mk.injEq, and_true] at hm
          obtain ⟨rfl, rfl, rfl, rfl⟩ := hm
          simp only [List.getD_cons_succ, List.getD_cons_zero] at c6 hA
          have H5 := Lib.hid h5
          have HA := Lib.hid hA
          have HV := Lib.hid hV
          have hk5 : k5 ≤ n := by omega
          have hka : k5 + ka ≤ n := by omega
          obtain ⟨-, r2, -, -⟩ := vec1_one hV
          rw [List.length_drop] at r2
          have hkv : k5 + ka + kv ≤ n := by omega
          have hs1 := run_tail A n c k5 hk5
          have hs2 := tail_sum A n c k5 ka hka
          clear p1 p2 p3 p4 q1 q2 r2 h5 hA hV hlen h
          go_enter Try.func34, Try.ntmps34
          go_wp2_with (first
            | (go_at_call 56; ((with_reducible refine (takeNums_five (HR.out.alloc _) hn H5.out).mono ?_); rintro e w2 ⟨X, j, d, rfl, hX, hb⟩; have b2 : Below (w.heap.size + 1) (w.alloc (.cells #[.int .i64 0, .int .i64 0, .int .i64 0, .int .i64 0, .slice none 0 0, .slice none 0 0] 39)) w2 := (by rw [World.size_alloc] at hb; exact hb); have B2 := Lib.hid b2; obtain ⟨hx, hj⟩ := gave_row hX (by simp [asInts]); have HX2 := Lib.hid hx; obtain ⟨hb0, ho0, e0, hlt0, hcell⟩ := hx.at_ (by rw [hj]; simp [asInts]); subst e0; have h04 : w2.cell? ⟨hb0, ho0 + 4, none⟩ = some (.int .i64 m) := hcell 4 _ rfl; have R2 := Lib.hid ((HR.out.below (((Below.refl _ w).alloc (Nat.le_refl _) _).trans (b2.mono (by omega)))).tail (k := k5) (by omega)); have hj5 : j = 5 := (by rw [hj]; simp [asInts]); subst hj5; clear hj hcell hx; clear b2 hb hX))
            | (go_at_call 56; ((with_reducible refine (takeNums_at R2.out (by omega) m (by omega) HA.out).mono ?_); rintro e w3 ⟨Y, j3, d3, rfl, hY, hb⟩; have b3 := B2.out.trans (hb.mono (by have := B2.out.size; rw [World.size_alloc] at this; exact this)); have HX3 := Lib.hid (HX2.out.below hb); have OY := Lib.hid (hY.mono (show w.heap.size + 1 ≤ w2.heap.size by have := B2.out.size; rw [World.size_alloc] at this; omega)); have B3 := Lib.hid b3; have R3 := Lib.hid ((HR.out.below (((Below.refl _ w).alloc (Nat.le_refl _) _).trans (b3.mono (by omega)))).tail (k := k5 + ka) (by omega)); clear b3 hb hY))
            | (go_at_call 57; ((with_reducible refine (takeVec_at R3.out (by omega) HV.out).mono ?_); rintro e w4 ⟨V, j4, d4, rfl, hV, hb⟩; have b4 := B3.out.trans (hb.mono (by have := B3.out.size; rw [World.size_alloc] at this; omega)); have hc4 := box_cell b4; have hf4 := box_free b4; have OY4 := Lib.hid (OY.out.below hb); have OV := Lib.hid (hV.mono (show w.heap.size + 1 ≤ w3.heap.size by have := B3.out.size; rw [World.size_alloc] at this; omega)); have HX4 := Lib.hid (HX3.out.below hb); have B4 := Lib.hid b4; clear b4 hb hV)))
          obtain ⟨hb1, ho1, e1, hlt1, hcell⟩ := HX4.out.at_ (by omega)
          obtain ⟨rfl, rfl⟩ : hb0 = hb1 ∧ ho0 = ho1 := by simpa using e1
          have g0 : w4.cell? ⟨hb0, ho0, none⟩ = some (.int .i64 x) := hcell 0 _ rfl
          have g1 : w4.cell? ⟨hb0, ho0 + 1, none⟩ = some (.int .i64 y) := hcell 1 _ rfl
          have g2 : w4.cell? ⟨hb0, ho0 + 2, none⟩ = some (.int .i64 z) := hcell 2 _ rfl
          have g3 : w4.cell? ⟨hb0, ho0 + 3, none⟩ = some (.int .i64 i) := hcell 3 _ rfl
          clear hcell e1 h04
          go_region_held3 (fun W => W.cell? ⟨hb0, ho0, none⟩ = some (.int .i64 x) ∧ W.cell? ⟨hb0, ho0 + 1, none⟩ = some (.int .i64 y) ∧ W.cell? ⟨hb0, ho0 + 2, none⟩ = some (.int .i64 z) ∧ W.cell? ⟨hb0, ho0 + 3, none⟩ = some (.int .i64 i)) (go_keep) (fail)
          have hsz : w.heap.size < w4.heap.size := by have := B4.out.size; rw [World.size_alloc] at this; omega
          go_wp2
          refine bodyPost_ret (v := .tuple #[.agg #[.int .i64 x, .int .i64 y, .int .i64 z, .int .i64 i, .slice Y j3 d3, .slice V j4 d4], .int .i64 ((k5 : Int) + (ka : Int) + (kv : Int)), .int .i64 0]) (by simp [results, Try.f34, go_sem, hc4, hsz]) rfl ?_
          refine ⟨Y, j3, d3, V, j4, d4, by rw [Int.natCast_add, Int.natCast_add], ?_, ?_, ?_⟩
          · exact (((owns_six OY4.out _ _ _ _ _ _).alloc _).drew).mono (by omega)
          · exact (((owns_six OV.out _ _ _ _ _ _).alloc _).drew).mono (by omega)
          · exact ((six_set (((Below.refl _ w).alloc (Nat.le_refl _) _).trans (B4.out.mono (by omega))) _ _ _ _ _ _).alloc (by simp [World.setCell]; omega) _).drew
        · simp [cv] at hm
      · simp [ca] at hm
  · simp [c5] at hm
end Wire
end Go.Proofs.Ytamahknnppjegaa
