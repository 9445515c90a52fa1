/-
  WORDS BETWEEN THE PLAIN MATHEMATICS AND THE WALK: how the program's numbers of 32 and 8 bits are spelled, and what a table of crc holds in memory.
-/
import Derived.Test.YtedandbkdjmfhaaCrcMath
import Derived.Laws.BitsAllLaws
import Derived.Below
import Derived.Laws.OwnMore
import Derived.Deep.AppendLies
import Derived.Deep.Draws
import Derived.Laws.Rows
namespace Go.Proofs.Ytedandbkdjmfhaa
open Go.RowKit
namespace Crc

theorem v_nonneg (a : BitVec 32) : 0 ≤ v a := Int.natCast_nonneg _
theorem v_lt (a : BitVec 32) : v a < 4294967296 := by have := a.isLt; unfold v; omega
theorem u_nonneg (a : BitVec 8) : 0 ≤ u a := Int.natCast_nonneg _
theorem u_lt (a : BitVec 8) : u a < 256 := by have := a.isLt; unfold u; omega
theorem v_inj {a b : BitVec 32} (h : v a = v b) : a = b := by
  apply BitVec.eq_of_toNat_eq; unfold v at h; omega
theorem beq_v (a b : BitVec 32) : (v a == v b) = decide (a = b) := by
  by_cases h : a = b
  · subst h; simp
  · have : v a ≠ v b := fun e => h (v_inj e)
    simp [h, this]
theorem wrap_v (a : BitVec 32) : IntKind.u32.wrap (v a) = v a := by
  rw [IntKind.wrap_u32']; have := v_nonneg a; have := v_lt a; omega
theorem ofInt_v (a : BitVec 32) : BitVec.ofInt 32 (v a) = a := by
  unfold v; rw [BitVec.ofInt_natCast, BitVec.ofNat_toNat, BitVec.setWidth_eq]
theorem ofInt_u (a : BitVec 8) : BitVec.ofInt 8 (u a) = a := by
  unfold u; rw [BitVec.ofInt_natCast, BitVec.ofNat_toNat, BitVec.setWidth_eq]
theorem wrapNat (a : BitVec 32) : IntKind.u32.wrap (a.toNat : Int) = v a := wrap_v a
theorem xor_v (a b : BitVec 32) : bits .xor .u32 (v a) (v b) = v (a ^^^ b) := by
  show IntKind.u32.wrap ((BitVec.ofInt 32 (v a) ^^^ BitVec.ofInt 32 (v b)).toNat : Int) = _
  rw [ofInt_v, ofInt_v]; exact wrap_v _
theorem and_v (a b : BitVec 32) : bits .and .u32 (v a) (v b) = v (a &&& b) := by
  show IntKind.u32.wrap ((BitVec.ofInt 32 (v a) &&& BitVec.ofInt 32 (v b)).toNat : Int) = _
  rw [ofInt_v, ofInt_v]; exact wrap_v _
theorem xor_u (a b : BitVec 8) : bits .xor .u8 (u a) (u b) = u (a ^^^ b) := by
  show IntKind.u8.wrap ((BitVec.ofInt 8 (u a) ^^^ BitVec.ofInt 8 (u b)).toNat : Int) = _
  rw [ofInt_u, ofInt_u, IntKind.wrap_u8']
  have := u_nonneg (a ^^^ b); have := u_lt (a ^^^ b)
  show u (a ^^^ b) % 256 = _
  omega
theorem not_v (a : BitVec 32) : bits .xor .u32 4294967295 (v a) = v (~~~ a) := by
  have h := xor_v ones a
  have e : v ones = 4294967295 := by decide
  rw [e] at h
  have o : ones = BitVec.allOnes 32 := by decide
  rw [h, o, BitVec.allOnes_xor]
theorem not_v' (a : BitVec 32) : bits .xor .u32 (v a) 4294967295 = v (~~~ a) := by
  have h := xor_v a ones
  have e : v ones = 4294967295 := by decide
  rw [e] at h
  have o : ones = BitVec.allOnes 32 := by decide
  rw [h, o, BitVec.xor_allOnes]
theorem low_v (a : BitVec 32) : bits .and .u32 (v a) 1 = if a.getLsbD 0 then 1 else 0 := by
  have h := and_v a 1#32
  have e : v 1#32 = 1 := by decide
  rw [e] at h
  rw [h]
  cases hb : a.getLsbD 0
  · have : a &&& 1#32 = 0#32 := by
      apply BitVec.eq_of_getLsbD_eq
      intro i hi
      rcases Nat.eq_zero_or_pos i with h0 | h0
      · subst h0; rw [BitVec.getLsbD_and, hb]; simp
      · have : (1#32).getLsbD i = false := by rw [BitVec.getLsbD_one]; simp; omega
        rw [BitVec.getLsbD_and, this]; simp
    rw [this]; decide
  · have : a &&& 1#32 = 1#32 := by
      apply BitVec.eq_of_getLsbD_eq
      intro i hi
      rcases Nat.eq_zero_or_pos i with h0 | h0
      · subst h0; rw [BitVec.getLsbD_and, hb]; simp
      · have : (1#32).getLsbD i = false := by rw [BitVec.getLsbD_one]; simp; omega
        rw [BitVec.getLsbD_and, this]; simp
    rw [this]; decide
theorem shr_v (a : BitVec 32) (n : Nat) : v a / ((2 ^ n : Nat) : Int) = v (a >>> n) := by
  unfold v
  rw [BitVec.toNat_ushiftRight, Nat.shiftRight_eq_div_pow]
  omega
theorem shr1_v (a : BitVec 32) : v a / (2 : Int) = v (a >>> 1) := by have := shr_v a 1; simpa using this
theorem shr8_v (a : BitVec 32) : v a / (256 : Int) = v (a >>> 8) := by have := shr_v a 8; simpa using this
theorem sh_hit (a : BitVec 32) (h : a.getLsbD 0 = true) : bits .xor .u32 (v a / 2) 2197175160 = v (sh a) := by
  have e : (2197175160 : Int) = v poly := by decide
  rw [e, shr1_v, xor_v]; unfold sh; rw [h]; rfl
theorem sh_miss (a : BitVec 32) (h : a.getLsbD 0 = false) : v a / 2 = v (sh a) := by
  rw [shr1_v]; unfold sh; rw [h]; rfl
theorem low8_v (a : BitVec 32) : IntKind.u8.wrap (v a) = u (a.setWidth 8) := by
  rw [IntKind.wrap_u8']; unfold u v; rw [BitVec.toNat_setWidth]; omega
theorem low8_v' (a : BitVec 32) : v a % 256 = u (a.setWidth 8) := by
  unfold u v; rw [BitVec.toNat_setWidth]; omega
theorem wide_u (x : BitVec 8) : u x = v (x.setWidth 32) := by
  unfold u v; rw [BitVec.toNat_setWidth]; have := x.isLt; omega
theorem v_zero : v 0#32 = 0 := by decide
theorem one_at (j : Nat) (hj : j < 32) (a : BitVec 32) : a &&& (1#32 <<< j) = if a.getLsbD j then 1#32 <<< j else 0#32 := by
  apply BitVec.eq_of_getLsbD_eq
  intro i hi
  rw [BitVec.getLsbD_and]
  have t : (1#32 <<< j).getLsbD i = decide (i = j) := by
    simp only [BitVec.getLsbD_shiftLeft, BitVec.getLsbD_one]
    by_cases h : i = j
    · subst h; simp [hi]
    · by_cases h2 : i < j
      · simp [h, h2]
      · have : ¬ (i - j = 0) := by omega
        simp [h, this]
  rw [t]
  by_cases h : i = j
  · subst h; cases a.getLsbD i <;> simp; omega
  · cases a.getLsbD j <;> simp [h, t]
theorem half_v (k : Nat) (hk : k < 32) : (2147483648 : Int) / 2 ^ k = v (1#32 <<< (31 - k)) := by
  have h : v (1#32 <<< (31 - k)) = ((2 ^ (31 - k) : Nat) : Int) := by
    unfold v
    congr 1
    rw [BitVec.toNat_shiftLeft]
    have : 2 ^ (31 - k) < 2 ^ 32 := Nat.pow_lt_pow_right (by omega) (by omega)
    simp [Nat.shiftLeft_eq]
    omega
  have e : (2147483648 : Int) = ((2 ^ (31 - k) : Nat) : Int) * 2 ^ k := by
    rw [show ((2 ^ (31 - k) : Nat) : Int) = (2 : Int) ^ (31 - k) by simp, ← Int.pow_add, show 31 - k + k = 31 by omega]
    decide
  rw [h, e, Int.mul_ediv_cancel _ (by have : (0 : Int) < 2 ^ k := Int.pow_pos (by decide); omega)]
theorem bit_v (a : BitVec 32) (k : Nat) (hk : k < 32) : (bits .and .u32 (v a) (2147483648 / 2 ^ k) != 0) = a.getLsbD (31 - k) := by
  rw [half_v k hk, and_v, one_at _ (by omega)]
  cases a.getLsbD (31 - k)
  · simp [v_zero]
  · have : v (1#32 <<< (31 - k)) ≠ 0 := by
      rw [← half_v k hk]
      have h1 : (2 : Int) ^ k ≤ 2 ^ 31 := by have := Nat.pow_le_pow_right (n := 2) (by omega) (show k ≤ 31 by omega); exact_mod_cast this
      have h2 : (0 : Int) < 2 ^ k := Int.pow_pos (by decide)
      have h3 : 1 ≤ (2147483648 : Int) / 2 ^ k := (Int.le_ediv_iff_mul_le h2).2 (by simpa using h1)
      omega
    simp [this]
theorem odd_i64 (n : Nat) : (bits .and .i64 (n : Int) 1 == 1) = decide (n % 2 = 1) := by
  have e : bits .and .i64 (n : Int) 1 = ((n % 2 : Nat) : Int) := by
    show IntKind.i64.wrap ((BitVec.ofInt 64 (n : Int) &&& BitVec.ofInt 64 1).toNat : Int) = _
    have h1 : (BitVec.ofInt 64 1).toNat = 1 := by decide
    rw [BitVec.toNat_and, h1, BitVec.ofInt_natCast, BitVec.toNat_ofNat, Nat.and_one_is_mod]
    have : (n % 2 ^ 64) % 2 = n % 2 := by omega
    rw [this]
    have : n % 2 < 2 := Nat.mod_lt _ (by omega)
    simp [IntKind.wrap, IntKind.bits, IntKind.signed]
    omega
  rw [e]
  rcases Nat.mod_two_eq_zero_or_one n with h | h <;> simp [h]
theorem ret_u32 {a b : Int} (h : a = b) : Ending.returned (.int .u32 a) = .returned (.int .u32 b) := by rw [h]
theorem ret_i64 {a b : Int} (h : a = b) : Ending.returned (.int .i64 a) = .returned (.int .i64 b) := by rw [h]
theorem ret_bool {a b : Bool} (h : a = b) : Ending.returned (.bool a) = .returned (.bool b) := by rw [h]

/-- The world w' is w with new blocks, and with writes to block g alone. -/
structure Keep (g : Nat) (w w' : World) : Prop where
  by_ : w.grownBy w' (some g)
theorem Keep.refl (g : Nat) (w : World) : Keep g w w := ⟨⟨rfl, rfl, rfl, Nat.le_refl _, fun _ _ _ => rfl⟩⟩
theorem Keep.trans {g : Nat} {a b c : World} (h : Keep g a b) (k : Keep g b c) : Keep g a c :=
  ⟨⟨k.1.os.trans h.1.os, k.1.tape.trans h.1.tape, k.1.output.trans h.1.output, Nat.le_trans h.1.size k.1.size,
    fun i hi hn => (k.1.block i (Nat.lt_of_lt_of_le hi h.1.size) hn).trans (h.1.block i hi hn)⟩⟩
theorem Keep.drew {g : Nat} {a w : World} (h : Keep g a w) : Keep g a w.drew := h.trans ⟨⟨rfl, rfl, rfl, Nat.le_refl _, fun _ _ _ => rfl⟩⟩
theorem Keep.drewN {g : Nat} {a w : World} (h : Keep g a w) (n : Nat) : Keep g a (w.drewN n) := h.trans ⟨⟨rfl, rfl, rfl, Nat.le_refl _, fun _ _ _ => rfl⟩⟩
theorem Keep.alloc {g : Nat} {a w : World} (h : Keep g a w) (o : Obj) : Keep g a (w.alloc o) :=
  h.trans ⟨⟨rfl, rfl, rfl, by simp, fun k hk _ => Below.heap_alloc _ _ _ hk⟩⟩
theorem Keep.setCell {g : Nat} {a w : World} (h : Keep g a w) {p : Addr} (hp : p.block = g) (x : Value) : Keep g a (w.setCell p x) :=
  h.trans ⟨⟨rfl, rfl, rfl, by simp [World.setCell], fun k _ hn => Below.heap_setCell _ _ _ _ (fun e => hn (by rw [e, hp]))⟩⟩
theorem Keep.below {g : Nat} {a w : World} (h : Keep g a w) (hg : g ≤ a.heap.size) : Below g a w :=
  ⟨h.1.os, h.1.tape, h.1.output, h.1.size, fun k hk => h.1.block k (by omega) (fun e => by injection e with e; omega)⟩
theorem Keep.cell {g : Nat} {a w : World} (h : Keep g a w) {p : Addr} {x : Value} (hc : a.cell? p = some x) (hn : p.block ≠ g) : w.cell? p = some x :=
  h.1.cell hc (fun e => hn (by injection e))
/-- Where block g is one of the call's own, all that was there ahead of the call is as it was. -/
theorem Keep.low {g B : Nat} {a w : World} (h : Keep g a w) (hB : B ≤ g) (hs : B ≤ a.heap.size) : Below B a w :=
  ⟨h.1.os, h.1.tape, h.1.output, h.1.size, fun k hk => h.1.block k (by omega) (fun e => by injection e with e; omega)⟩

/-- The bytes l lie where the slice looks, outside block g. -/
def Bytes (w : World) (g : Nat) (A : Option Addr) (n : Nat) (l : List (BitVec 8)) : Prop :=
  l.length = n ∧ n ≤ 140737488351232 ∧ (0 < n → ∃ x, A = some x ∧ x.block ≠ g ∧ ∀ i b, l[i]? = some b → w.cell? (x.add i) = some (.int .u8 (u b)))
theorem Bytes.keep {w w' : World} {g : Nat} {A : Option Addr} {n : Nat} {l : List (BitVec 8)} (h : Bytes w g A n l) (k : Keep g w w') : Bytes w' g A n l := by
  refine ⟨h.1, h.2.1, fun h0 => ?_⟩
  obtain ⟨x, e, hx, hc⟩ := h.2.2 h0
  exact ⟨x, e, hx, fun i b hb => k.cell (hc i b hb) (by rw [show (x.add i).block = x.block from by unfold Addr.add; split <;> rfl]; exact hx)⟩
theorem add_none (b o k : Nat) : (⟨b, o, none⟩ : Addr).add k = ⟨b, o + k, none⟩ := by
  unfold Addr.add; split <;> simp_all
theorem Bytes.at_ {w : World} {g : Nat} {A : Option Addr} {n : Nat} {l : List (BitVec 8)} (h : Bytes w g A n l) (h0 : 0 < n) :
    ∃ b o, A = some ⟨b, o, none⟩ ∧ b ≠ g ∧ ∀ i x, l[i]? = some x → w.cell? ⟨b, o + i, none⟩ = some (.int .u8 (u x)) := by
  obtain ⟨⟨b, o, s⟩, e, hx, hc⟩ := h.2.2 h0
  have hl := h.1
  have h1 := World.cell?_spot (hc 0 _ (List.getElem?_eq_getElem (by omega)))
  have hs : s = none := by simpa [Addr.add] using h1
  subst hs
  exact ⟨b, o, e, hx, fun i x hi => by rw [← add_none]; exact hc i x hi⟩
theorem Bytes.none_ (w : World) (g : Nat) : Bytes w g none 0 [] := ⟨rfl, by omega, fun h => absurd h (by omega)⟩

/-- What a table holds: how often it was asked; made: whether its row of 256 words is there. -/
structure Tab (w : World) (g : Nat) (n : Int) (made : Bool) : Prop where
  blk : ∃ cs, w.heap[g]? = some (.cells cs 107 (0, 0)) ∧ cs.size = 260 ∧ cs[0]? = some (.int .u32 (if made then 1 else 0)) ∧ cs[1]? = some (.int .i32 0) ∧ cs[3]? = some (.int .i64 n) ∧
    (made = true → ∀ i : Nat, i < 256 → cs[4 + i]? = some (.int .u32 (v (shn 8 (BitVec.ofNat 32 i)))))
end Crc
end Go.Proofs.Ytedandbkdjmfhaa
