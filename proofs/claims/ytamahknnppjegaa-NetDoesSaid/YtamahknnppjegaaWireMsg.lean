/-
  wire: MESSAGES: Msg AND TakeMsg.
-/
import Derived.Test.YtamahknnppjegaaWireNumL
import Derived.Test.YtamahknnppjegaaWireConcat
import Derived.Test.YtamahknnppjegaaWireMsgMath
namespace Go.Proofs.Ytamahknnppjegaa
open Go.RowKit Mem
namespace Wire

theorem toNat_asInts (l : List Nat) : (asInts l).map Int.toNat = l := by
  unfold asInts
  rw [List.map_map]
  have : (Int.toNat ∘ fun n : Nat => (n : Int)) = id := by funext n; simp
  rw [this, List.map_id]
theorem asInts_nonneg (l : List Nat) : ∀ z ∈ asInts l, 0 ≤ z := by
  intro z hz
  obtain ⟨n, -, rfl⟩ := List.mem_map.1 hz
  omega
theorem asInts_lt {l : List Nat} (h : ∀ n ∈ l, n < 9223372036854775808) : ∀ z ∈ asInts l, z < 9223372036854775808 := by
  intro z hz
  obtain ⟨n, hn, rfl⟩ := List.mem_map.1 hz
  have := h n hn
  omega
/-- Nums of numbers that are not below 0. -/
theorem nums_nat {A : Option Addr} {n c : Nat} {l : List Nat} {w : World} (h : Row ci w A n c (asInts l)) (hr : ∀ z ∈ l, z < 9223372036854775808) (hn : n ≤ 17592186044416) :
    Calls Try.prog 60 #[.slice A n c] w (GaveE cb 5 w.heap.size w (encs l) 0) := by
  have := nums_pos h (asInts_lt hr) hn (asInts_nonneg l)
  rwa [toNat_asInts] at this

theorem all_five {k f t i n : Nat} (hk : k < 9223372036854775808) (hf : f < 9223372036854775808) (ht : t < 9223372036854775808) (hi : i < 9223372036854775808) (hn : n < 9223372036854775808) : ∀ z ∈ [k, f, t, i, n], z < 9223372036854775808 := by
  intro z hz
  simp only [List.mem_cons, List.not_mem_nil, or_false] at hz
  rcases hz with rfl | rfl | rfl | rfl | rfl <;> omega
/-- Nums of five numbers that were just laid. -/
theorem nums_five {k f t i n : Nat} (h : ∀ z ∈ [k, f, t, i, n], z < 9223372036854775808) (W : World) {b : Nat} (hb : b = W.heap.size) :
    Calls Try.prog 60 #[.slice (some ⟨b, 0, none⟩) 5 5] (W.alloc (.cells #[.int .i64 k, .int .i64 f, .int .i64 t, .int .i64 i, .int .i64 n] 3)) (GaveE cb 5 W.heap.size W (encs [k, f, t, i, n]) 0) := by
  subst hb
  refine (nums_nat (l := [k, f, t, i, n]) (row_new ci W (asInts [k, f, t, i, n]) 3 (by simp [asInts]) rfl) h (by simp [asInts])).mono ?_
  rintro e w' ⟨X, j, d, rfl, h1, h2⟩
  exact ⟨X, j, d, rfl, h1.mono (by simp), ((Below.refl _ W).alloc (Nat.le_refl _) _).trans (h2.mono (by simp))⟩
/-- Concat of three rows that were just laid. -/
theorem concat_three {w : World} {b : Nat} {X Y Z : Option Addr} {kx cx ky cy kz cz : Nat} {x y z : List B8} (hx : Row cb w X kx cx x) (hy : Row cb w Y ky cy y) (hz : Row cb w Z kz cz z) (hs : kx + ky + kz ≤ 140737488351232) (hb : b = w.heap.size) :
    Calls Try.prog 62 #[.slice (some ⟨b, 0, none⟩) 3 3] (w.alloc (.cells #[.slice X kx cx, .slice Y ky cy, .slice Z kz cz] 23)) (Gave cb 5 w.heap.size w (x ++ (y ++ z))) := by
  subst hb
  refine (concat_any (ps := [⟨X, kx, cx, x⟩, ⟨Y, ky, cy, y⟩, ⟨Z, kz, cz, z⟩]) (row_new Piece.val w _ 23 (by simp) rfl) ?_ ?_).mono ?_
  · intro p hp
    simp only [List.mem_cons, List.not_mem_nil, or_false] at hp
    rcases hp with rfl | rfl | rfl
    · exact hx.alloc _
    · exact hy.alloc _
    · exact hz.alloc _
  · simp [total]; omega
  · rintro e w' ⟨V, k, c, rfl, h1, h2⟩
    refine ⟨V, k, c, rfl, ?_, ((Below.refl _ w).alloc (Nat.le_refl _) _).trans (h2.mono (by simp))⟩
    have : joined [⟨X, kx, cx, x⟩, ⟨Y, ky, cy, y⟩, ⟨Z, kz, cz, z⟩] = x ++ (y ++ z) := by simp [joined]
    rw [this] at h1
    exact h1.mono (by simp)
/-- A box, behind what only makes new memory. -/
theorem box_cell {w w2 : World} {cs : Array Value} {T : TypeId} (h : Below (w.heap.size + 1) (w.alloc (.cells cs T)) w2) (o : Nat) : w2.cell? ⟨w.heap.size, o, none⟩ = cs[o]? := by
  rw [h.cell (p := ⟨w.heap.size, o, none⟩) (by simp)]
  exact cell_of_row _ w.heap.size o _ _ (0, 0) (heap_alloc_new w _)

set_option maxRecDepth 100000 in
set_option maxHeartbeats 1600000 in
theorem msg_ok {k f t i : Nat} {A : Option Addr} {n c : Nat} {a : List Nat} {B : Option Addr} {m d : Nat} {v : List B8} {w : World} (hk : k < 9223372036854775808) (hf : f < 9223372036854775808) (ht : t < 9223372036854775808) (hi : i < 9223372036854775808)
    (ha : ∀ n ∈ a, n < 9223372036854775808) (h1 : Row ci w A n c (asInts a)) (h2 : Row cb w B m d v) (h64 : n ≤ 64) (hm : m ≤ 65536) :
    Calls Try.prog 46 #[.agg #[.int .i64 k, .int .i64 f, .int .i64 t, .int .i64 i, .slice A n c, .slice B m d]] w (GaveE cb 5 w.heap.size w (encM [k, f, t, i, n] a v) 0) := by
  have H1 := Lib.hid h1
  have H2 := Lib.hid h2
  have h5 := all_five hk hf ht hi (show n < 9223372036854775808 by omega)
  have HN := Lib.hid (fun (W : World) (b : Nat) (hb : b = W.heap.size) => nums_five h5 W hb)
  have HA := Lib.hid (fun (W : World) (h : Row ci W A n c (asInts a)) => nums_nat h ha (by omega))
  have HV := Lib.hid (fun (W : World) (h : Row cb W B m d v) => vec_ok h (by omega))
  have L1 : (encs [k, f, t, i, n]).length ≤ 50 := encs_len (l := [k, f, t, i, n]) (fun z hz => by have := h5 z hz; omega)
  have L2 : (encs a).length ≤ 1000 := by have := encs_len (l := a) (fun z hz => by have := ha z hz; omega); have hl := h1.len; simp [asInts] at hl; omega
  have L3 : (encV v).length ≤ 66000 := by have := enc_len_le (n := v.length) (by have := h2.len; omega); have hl := h2.len; unfold encV; rw [List.length_append]; omega
  have E : Hid (encM [k, f, t, i, n] a v = encs [k, f, t, i, n] ++ (encs a ++ encV v)) := rfl
  clear h1 h2 hk hf ht hi ha h5
  generalize encM [k, f, t, i, n] a v = whole at *
  generalize encs [k, f, t, i, n] = x at *
  generalize encs a = y at *
  generalize encV v = z at *
  go_enter Try.func46, Try.ntmps46
  go_wp2_with fail
  refine (HN.out (w.alloc _) _ (by simp)).mono ?_
  rintro e w2 ⟨X, kx, cx, rfl, hX, hb2⟩
  obtain ⟨hx, rfl⟩ := gave_row hX (by omega)
  have b2 : Below (w.heap.size + 1) (w.alloc (.cells #[.int .i64 k, .int .i64 f, .int .i64 t, .int .i64 i, .slice A n c, .slice B m d] 39)) w2 := by simpa using hb2
  have c24 := box_cell b2 4
  have B2 := Lib.hid b2
  have R2 := Lib.hid hx
  have W2 := Lib.hid (((Below.refl _ w).alloc (Nat.le_refl _) _).trans (b2.mono (by omega)))
  clear hb2 hx hX b2
  go_wp2_with fail
  refine (HA.out _ (H1.out.below W2.out)).mono ?_
  rintro e w3 ⟨Y, ky, cy, rfl, hY, hb3⟩
  obtain ⟨hy, rfl⟩ := gave_row hY (by omega)
  have b3 := B2.out.trans (hb3.mono (by have := B2.out.size; simp at this; omega))
  have c34 := box_cell b3 4
  have c35 := box_cell b3 5
  have B3 := Lib.hid b3
  have R3 := Lib.hid hy
  have X3 := Lib.hid (R2.out.below hb3)
  have W3 := Lib.hid (W2.out.trans (hb3.mono W2.out.size))
  clear hb3 hy hY b3 c24 HN HA B2 R2
  go_wp2_with fail
  refine (HV.out _ (H2.out.below W3.out)).mono ?_
  rintro e w4 ⟨Z, kz, cz, rfl, hZ, hb4⟩
  obtain ⟨hz, rfl⟩ := gave_row hZ (by omega)
  have R4 := Lib.hid hz
  have X4 := Lib.hid (X3.out.below hb4)
  have Y4 := Lib.hid (R3.out.below hb4)
  have W4 := Lib.hid (W3.out.trans (hb4.mono W3.out.size))
  have hc := fun (b : Nat) (hb : b = w4.heap.size) => concat_three (w := w4) (b := b) X4.out Y4.out R4.out (by omega) hb
  have HC := Lib.hid hc
  clear hb4 hz hZ c34 c35 HV R3 X3 X4 Y4 R4 B3 W3 hc
  go_wp2_with (go_at_call 62; refine (HC.out _ rfl).mono ?_; rintro e w5 ⟨V, kv, cv, rfl, hV, hb5⟩; have O5 := Lib.hid hV; have W5 := Lib.hid (W4.out.trans (hb5.mono W4.out.size)); clear hV hb5)
  go_ret2
  exact ⟨V, kv, cv, rfl, by rw [E.out]; exact O5.out.mono W4.out.size, W5.out⟩

/-- Msg of what may not be. -/
def MsgBad (w : World) (en : Ending) (w' : World) : Prop := ∃ er : Int, (er = 1 ∨ er = 2) ∧ en = .returned (.tuple #[.slice none 0 0, .int .i64 er]) ∧ Below w.heap.size w w'

theorem nums_five_neg {k f t i n : Int} (h : ∀ z ∈ [k, f, t, i, n], z < 9223372036854775808) (hneg : ¬ ∀ z ∈ [k, f, t, i, n], 0 ≤ z) (W : World) {b : Nat} (hb : b = W.heap.size) :
    Calls Try.prog 60 #[.slice (some ⟨b, 0, none⟩) 5 5] (W.alloc (.cells #[.int .i64 k, .int .i64 f, .int .i64 t, .int .i64 i, .int .i64 n] 3)) fun e w' => e = .returned (.tuple #[.slice none 0 0, .int .i64 1]) ∧ Below W.heap.size W w' := by
  subst hb
  refine (nums_neg (l := [k, f, t, i, n]) (row_new ci W [k, f, t, i, n] 3 (by simp) rfl) h (by simp) hneg).mono ?_
  rintro e w' ⟨rfl, h2⟩
  exact ⟨rfl, ((Below.refl _ W).alloc (Nat.le_refl _) _).trans (h2.mono (by simp))⟩

set_option maxRecDepth 100000 in
set_option maxHeartbeats 1600000 in
theorem msg_bad_head {k f t i : Int} {A : Option Addr} {n c : Nat} {B : Option Addr} {m d : Nat} {w : World} (h5 : ∀ z ∈ [k, f, t, i, (n : Int)], z < 9223372036854775808) (hneg : ¬ ∀ z ∈ [k, f, t, i, (n : Int)], 0 ≤ z) :
    Calls Try.prog 46 #[.agg #[.int .i64 k, .int .i64 f, .int .i64 t, .int .i64 i, .slice A n c, .slice B m d]] w (MsgBad w) := by
  have HN := Lib.hid (fun (W : World) (b : Nat) (hb : b = W.heap.size) => nums_five_neg h5 hneg W hb)
  clear h5 hneg
  go_enter Try.func46, Try.ntmps46
  go_wp2_with fail
  refine (HN.out (w.alloc _) _ (by simp)).mono ?_
  rintro e w2 ⟨rfl, hb2⟩
  have W2 := Lib.hid (((Below.refl _ w).alloc (Nat.le_refl _) _).trans (hb2.mono (by simp)))
  clear hb2 HN
  go_wp2
  go_ret2
  exact ⟨1, .inl rfl, rfl, W2.out⟩

set_option maxRecDepth 100000 in
set_option maxHeartbeats 1600000 in
theorem msg_bad_args {k f t i : Nat} {A : Option Addr} {n c : Nat} {B : Option Addr} {m d : Nat} {w : World} (hk : k < 9223372036854775808) (hf : f < 9223372036854775808) (ht : t < 9223372036854775808) (hi : i < 9223372036854775808)
    {l : List Int} (h1 : Row ci w A n c l) (hr : ∀ z ∈ l, z < 9223372036854775808) (hneg : ¬ ∀ z ∈ l, 0 ≤ z) (hn : n ≤ 17592186044416) :
    Calls Try.prog 46 #[.agg #[.int .i64 k, .int .i64 f, .int .i64 t, .int .i64 i, .slice A n c, .slice B m d]] w (MsgBad w) := by
  have H1 := Lib.hid h1
  have h5 := all_five hk hf ht hi (show n < 9223372036854775808 by omega)
  have HN := Lib.hid (fun (W : World) (b : Nat) (hb : b = W.heap.size) => nums_five h5 W hb)
  have L1 : (encs [k, f, t, i, n]).length ≤ 50 := encs_len (l := [k, f, t, i, n]) (fun z hz => by have := h5 z hz; omega)
  have HA := Lib.hid (fun (W : World) (h : Row ci W A n c l) => nums_neg h hr (by omega) hneg)
  clear h1 hr hneg hk hf ht hi h5
  generalize encs [k, f, t, i, n] = x at *
  go_enter Try.func46, Try.ntmps46
  go_wp2_with fail
  refine (HN.out (w.alloc _) _ (by simp)).mono ?_
  rintro e w2 ⟨X, kx, cx, rfl, hX, hb2⟩
  obtain ⟨hx, rfl⟩ := gave_row hX (by omega)
  have b2 : Below (w.heap.size + 1) (w.alloc (.cells #[.int .i64 k, .int .i64 f, .int .i64 t, .int .i64 i, .slice A n c, .slice B m d] 39)) w2 := by simpa using hb2
  have c24 := box_cell b2 4
  have B2 := Lib.hid b2
  have W2 := Lib.hid (((Below.refl _ w).alloc (Nat.le_refl _) _).trans (b2.mono (by omega)))
  clear hb2 hx hX b2 HN
  go_wp2_with fail
  refine (HA.out _ (H1.out.below W2.out)).mono ?_
  rintro e w3 ⟨rfl, hb3⟩
  have W3 := Lib.hid (W2.out.trans (hb3.mono W2.out.size))
  clear hb3 c24 HA B2
  go_wp2
  go_ret2
  exact ⟨1, .inl rfl, rfl, W3.out⟩

set_option maxRecDepth 100000 in
set_option maxHeartbeats 1600000 in
theorem msg_bad_many {k f t i : Nat} {A : Option Addr} {n c : Nat} {B : Option Addr} {m d : Nat} {w : World} (hk : k < 9223372036854775808) (hf : f < 9223372036854775808) (ht : t < 9223372036854775808) (hi : i < 9223372036854775808)
    {a : List Nat} (h1 : Row ci w A n c (asInts a)) (ha : ∀ n ∈ a, n < 9223372036854775808) (h64 : 64 < n) (hn : n ≤ 17592186044416) :
    Calls Try.prog 46 #[.agg #[.int .i64 k, .int .i64 f, .int .i64 t, .int .i64 i, .slice A n c, .slice B m d]] w (MsgBad w) := by
  have H1 := Lib.hid h1
  have h5 := all_five hk hf ht hi (show n < 9223372036854775808 by omega)
  have HN := Lib.hid (fun (W : World) (b : Nat) (hb : b = W.heap.size) => nums_five h5 W hb)
  have L1 : (encs [k, f, t, i, n]).length ≤ 50 := encs_len (l := [k, f, t, i, n]) (fun z hz => by have := h5 z hz; omega)
  have HA := Lib.hid (fun (W : World) (h : Row ci W A n c (asInts a)) => nums_nat h ha (by omega))
  clear h1 ha hk hf ht hi h5
  generalize encs [k, f, t, i, n] = x at *
  go_enter Try.func46, Try.ntmps46
  go_wp2_with fail
  refine (HN.out (w.alloc _) _ (by simp)).mono ?_
  rintro e w2 ⟨X, kx, cx, rfl, hX, hb2⟩
  obtain ⟨hx, rfl⟩ := gave_row hX (by omega)
  have b2 : Below (w.heap.size + 1) (w.alloc (.cells #[.int .i64 k, .int .i64 f, .int .i64 t, .int .i64 i, .slice A n c, .slice B m d] 39)) w2 := by simpa using hb2
  have c24 := box_cell b2 4
  have B2 := Lib.hid b2
  have W2 := Lib.hid (((Below.refl _ w).alloc (Nat.le_refl _) _).trans (b2.mono (by omega)))
  clear hb2 hx hX b2 HN
  go_wp2_with fail
  refine (HA.out _ (H1.out.below W2.out)).mono ?_
  rintro e w3 ⟨Y, ky, cy, rfl, hY, hb3⟩
  have b3 := B2.out.trans (hb3.mono (by have := B2.out.size; simp at this; omega))
  have c34 := box_cell b3 4
  have c35 := box_cell b3 5
  have W3 := Lib.hid (W2.out.trans (hb3.mono W2.out.size))
  clear hb3 hY b3 c24 HA B2
  go_wp2
  go_ret2
  exact ⟨2, .inr rfl, rfl, W3.out⟩

set_option maxRecDepth 100000 in
set_option maxHeartbeats 1600000 in
theorem msg_bad_long {k f t i : Nat} {A : Option Addr} {n c : Nat} {B : Option Addr} {m d : Nat} {w : World} (hk : k < 9223372036854775808) (hf : f < 9223372036854775808) (ht : t < 9223372036854775808) (hi : i < 9223372036854775808)
    {a : List Nat} {v : List B8} (h1 : Row ci w A n c (asInts a)) (h2 : Row cb w B m d v) (ha : ∀ n ∈ a, n < 9223372036854775808) (h64 : n ≤ 64) (hm : 65536 < m) :
    Calls Try.prog 46 #[.agg #[.int .i64 k, .int .i64 f, .int .i64 t, .int .i64 i, .slice A n c, .slice B m d]] w (MsgBad w) := by
  have H1 := Lib.hid h1
  have h5 := all_five hk hf ht hi (show n < 9223372036854775808 by omega)
  have HN := Lib.hid (fun (W : World) (b : Nat) (hb : b = W.heap.size) => nums_five h5 W hb)
  have L1 : (encs [k, f, t, i, n]).length ≤ 50 := encs_len (l := [k, f, t, i, n]) (fun z hz => by have := h5 z hz; omega)
  have HA := Lib.hid (fun (W : World) (h : Row ci W A n c (asInts a)) => nums_nat h ha (by omega))
  have H2 := Lib.hid h2
  have HV := Lib.hid (fun (W : World) (h : Row cb W B m d v) => vec_long h hm)
  clear h1 h2 ha hk hf ht hi h5 hm
  generalize encs [k, f, t, i, n] = x at *
  go_enter Try.func46, Try.ntmps46
  go_wp2_with fail
  refine (HN.out (w.alloc _) _ (by simp)).mono ?_
  rintro e w2 ⟨X, kx, cx, rfl, hX, hb2⟩
  obtain ⟨hx, rfl⟩ := gave_row hX (by omega)
  have b2 : Below (w.heap.size + 1) (w.alloc (.cells #[.int .i64 k, .int .i64 f, .int .i64 t, .int .i64 i, .slice A n c, .slice B m d] 39)) w2 := by simpa using hb2
  have c24 := box_cell b2 4
  have B2 := Lib.hid b2
  have W2 := Lib.hid (((Below.refl _ w).alloc (Nat.le_refl _) _).trans (b2.mono (by omega)))
  clear hb2 hx hX b2 HN
  go_wp2_with fail
  refine (HA.out _ (H1.out.below W2.out)).mono ?_
  rintro e w3 ⟨Y, ky, cy, rfl, hY, hb3⟩
  have b3 := B2.out.trans (hb3.mono (by have := B2.out.size; simp at this; omega))
  have c34 := box_cell b3 4
  have c35 := box_cell b3 5
  have W3 := Lib.hid (W2.out.trans (hb3.mono W2.out.size))
  clear hb3 hY b3 c24 HA B2
  go_wp2_with fail
  refine (HV.out _ (H2.out.below W3.out)).mono ?_
  rintro e w4 ⟨Z, kz, cz, rfl, hZ, hb4⟩
  have W4 := Lib.hid (W3.out.trans (hb4.mono W3.out.size))
  clear hb4 hZ HV c34 c35
  go_wp2
  go_ret2
  exact ⟨2, .inr rfl, rfl, W4.out⟩

end Wire
end Go.Proofs.Ytamahknnppjegaa
