/-
  wire: Fixed AND TakeFixed, AND THE DOCUMENT's OWN.
-/
import Derived.Test.YtndcflchdecofaaWireTake
import Derived.Laws.MakeOwn
import Derived.Deep.QuietTactic
import Derived.BigQuiet
namespace Go.Proofs.Ytndcflchdecofaa
open Go.RowKit Go.Shelf Mem
namespace Wire

/-- The four bytes of a number. -/
def enc4 (n : Nat) : List B8 := [BitVec.ofNat 8 n, BitVec.ofNat 8 (n / 256), BitVec.ofNat 8 (n / 65536), BitVec.ofNat 8 (n / 16777216)]
/-- The cells when k of them are written. -/
def cells4 (n k : Nat) : Array Value := #[if 0 < k then cb (BitVec.ofNat 8 n) else .int .u8 0, if 1 < k then cb (BitVec.ofNat 8 (n / 256)) else .int .u8 0, if 2 < k then cb (BitVec.ofNat 8 (n / 65536)) else .int .u8 0, if 3 < k then cb (BitVec.ofNat 8 (n / 16777216)) else .int .u8 0]

theorem heap_set {w : World} {g : Nat} {cs : Array Value} {e : TypeId} (h : w.heap[g]? = some (.cells cs e (0, 0))) (i : Nat) (v : Value) : (w.setCell ⟨g, i, none⟩ v).heap[g]? = some (.cells (cs.setIfInBounds i v) e (0, 0)) := by
  simp [World.setCell, Array.getElem?_modify, h]
theorem cells4_0 (n : Nat) : (cells4 n 0).setIfInBounds 0 (.int .u8 ((n : Int) % 256)) = cells4 n 1 := by
  have : Value.int .u8 ((n : Int) % 256) = cb (BitVec.ofNat 8 n) := by unfold cb u; rw [BitVec.toNat_ofNat]; congr 1
  rw [this]; rfl
theorem cells4_1 (n : Nat) : (cells4 n 1).setIfInBounds 1 (.int .u8 ((n : Int) / 256 % 256)) = cells4 n 2 := by
  have : Value.int .u8 ((n : Int) / 256 % 256) = cb (BitVec.ofNat 8 (n / 256)) := by unfold cb u; rw [BitVec.toNat_ofNat]; congr 1
  rw [this]; rfl
theorem cells4_2 (n : Nat) : (cells4 n 2).setIfInBounds 2 (.int .u8 ((n : Int) / 65536 % 256)) = cells4 n 3 := by
  have : Value.int .u8 ((n : Int) / 65536 % 256) = cb (BitVec.ofNat 8 (n / 65536)) := by unfold cb u; rw [BitVec.toNat_ofNat]; congr 1
  rw [this]; rfl
theorem top_u (n : Nat) (hn : n < 4294967296) : (n : Int) / 16777216 = u (BitVec.ofNat 8 (n / 16777216)) := by unfold u; rw [BitVec.toNat_ofNat]; omega
theorem cells4_3 (n : Nat) (hn : n < 4294967296) : (cells4 n 3).setIfInBounds 3 (.int .u8 ((n : Int) / 16777216)) = cells4 n 4 := by
  have : Value.int .u8 ((n : Int) / 16777216) = cb (BitVec.ofNat 8 (n / 16777216)) := by unfold cb; rw [top_u n hn]
  rw [this]; rfl
theorem cells4_made (n : Nat) : madeCells #[Value.int IntKind.u8 0] 4 = cells4 n 0 := by
  apply Array.toList_inj.1
  simp [madeCells, cells4, List.range_succ]
theorem own4 {w : World} {g base n : Nat} (h : w.heap[g]? = some (.cells (cells4 n 4) 5 (0, 0))) (hb : base ≤ g) : Owns cb 5 base w (.slice (some ⟨g, 0, none⟩) 4 4) 4 (enc4 n) :=
  ⟨rfl, .inr ⟨g, 4, cells4 n 4, rfl, hb, h, Nat.le_refl _, by decide, rfl, rfl⟩⟩

theorem own4_new {w : World} {n : Nat} {a b c d : Int} (ha : a = u (BitVec.ofNat 8 n)) (hb : b = u (BitVec.ofNat 8 (n / 256))) (hc : c = u (BitVec.ofNat 8 (n / 65536))) (hd : d = u (BitVec.ofNat 8 (n / 16777216))) :
    Owns cb 5 w.heap.size (w.alloc (.cells #[.int .u8 a, .int .u8 b, .int .u8 c, .int .u8 d] 5)) (.slice (some ⟨w.heap.size, 0, none⟩) 4 4) 4 (enc4 n) := by
  subst ha hb hc hd
  exact own4 (heap_alloc_new w _) (Nat.le_refl _)


/-- The number of four bytes. -/
def dec4 (a b c d : B8) : Nat := a.toNat + 256 * b.toNat + 65536 * c.toNat + 16777216 * d.toNat
theorem dec4_lt (a b c d : B8) : dec4 a b c d < 4294967296 := by
  have := a.isLt; have := b.isLt; have := c.isLt; have := d.isLt
  unfold dec4; omega
theorem enc4_dec4 (a b c d : B8) : enc4 (dec4 a b c d) = [a, b, c, d] := by
  have ha := a.isLt; have hb := b.isLt; have hc := c.isLt; have hd := d.isLt
  unfold enc4
  have e0 : BitVec.ofNat 8 (dec4 a b c d) = a := by apply BitVec.eq_of_toNat_eq; rw [BitVec.toNat_ofNat]; unfold dec4; omega
  have e1 : BitVec.ofNat 8 (dec4 a b c d / 256) = b := by apply BitVec.eq_of_toNat_eq; rw [BitVec.toNat_ofNat]; unfold dec4; omega
  have e2 : BitVec.ofNat 8 (dec4 a b c d / 65536) = c := by apply BitVec.eq_of_toNat_eq; rw [BitVec.toNat_ofNat]; unfold dec4; omega
  have e3 : BitVec.ofNat 8 (dec4 a b c d / 16777216) = d := by apply BitVec.eq_of_toNat_eq; rw [BitVec.toNat_ofNat]; unfold dec4; omega
  rw [e0, e1, e2, e3]
theorem dec4_enc4 (n : Nat) (hn : n < 4294967296) : dec4 (BitVec.ofNat 8 n) (BitVec.ofNat 8 (n / 256)) (BitVec.ofNat 8 (n / 65536)) (BitVec.ofNat 8 (n / 16777216)) = n := by
  unfold dec4
  simp only [BitVec.toNat_ofNat]
  omega
theorem four_of (l : List B8) (h : 4 ≤ l.length) : ∃ a b c d r, l = a :: b :: c :: d :: r := by
  match l, h with
  | a :: b :: c :: d :: r, _ => exact ⟨a, b, c, d, r, rfl⟩

def acc4 (pre : List B8) : Nat := (pre.foldl (fun a x => a * 256 + x.toNat) 0) % 4294967296
theorem acc4_snoc (pre : List B8) (x : B8) : acc4 (pre ++ [x]) = (acc4 pre * 256 + x.toNat) % 4294967296 := by
  unfold acc4
  rw [List.foldl_append]
  simp only [List.foldl_cons, List.foldl_nil]
  omega
theorem acc4_lt (pre : List B8) : acc4 pre < 4294967296 := Nat.mod_lt _ (by omega)
theorem acc4_rev (a b c d : B8) : acc4 [d, c, b, a] = dec4 a b c d := by
  have := dec4_lt a b c d
  unfold acc4 dec4 at *
  simp only [List.foldl_cons, List.foldl_nil]
  omega
theorem or_step4 (a : Nat) (x : B8) : bits .or .u32 (IntKind.u32.wrap ((a : Int) * 256)) (IntKind.u32.wrap (u x)) = (((a * 256 + x.toNat) % 4294967296 : Nat) : Int) := by
  have hx := x.isLt
  have hw : ∀ n : Int, IntKind.u32.wrap n = n % 4294967296 := fun n => by simp [IntKind.wrap, IntKind.bits, IntKind.signed]
  rw [hw, hw]
  have e2 : (a : Int) * 256 % 4294967296 = ((a * 256 % 4294967296 : Nat) : Int) := by omega
  have e3 : u x % 4294967296 = ((x.toNat : Nat) : Int) := by unfold u; omega
  rw [e2, e3, u32_or_nat _ _ (by omega) (by omega)]
  have := nat_join 8 (a * 256 % 4294967296) x.toNat (by omega) (by omega)
  rw [this]
  omega

theorem below_drewN (B : Nat) (w : World) (n : Nat) : Below B w (w.drewN n) := ⟨rfl, rfl, rfl, Nat.le_refl _, fun _ _ => rfl⟩
/-- TakeFixed, by an answer. -/
def TookF (n e : Int) (w : World) (en : Ending) (w' : World) : Prop := en = .returned (.tuple #[.int .u32 n, .int .i64 e]) ∧ Below w.heap.size w w'



attribute [local go_sem] Oper.semAt_some
end Wire
end Go.Proofs.Ytndcflchdecofaa
