/-
  SEVERAL TEXTS IN ONE FILE: Mem, ZonMath, Reg, ZonMem, ZonCheck.
-/
import Derived.Test.YtedandbkdjmfhaaGreatRows
import Derived.Laws.BitsAllLaws
import Derived.Laws.BytesArg
import Derived.Below
import Derived.Laws.OwnMore
import Derived.Laws.Rows
import Derived.Laws.Slices
import Derived.Deep.Draws
import Derived.WalkKit
import Derived.Maps.AppendAt
import Derived.Deep.DeepAppendWide
import Derived.OwnWalk
import Derived.Lib.Hide
import Derived.WideShapes
import Derived.Deep.RegionHeld3
import Derived.LoopTactic
import Derived.Deep.LoopGhost
import Derived.Deep.DeepCutAuto
import Derived.Lib.LazyBuf
import Derived.Lib.AppendZeros
import Derived.BigQuiet
import Derived.DeepKeys
import Derived.Deep.MidRow
set_option linter.unusedSimpArgs false
set_option linter.unusedVariables false
/-
  ROWS IN MEMORY, for all layers: a slice that reads as a list, its parts, what is appended, and its text.
-/
namespace Go.Proofs.YtedandbkdjmfhaaGreat
open Go.RowKit
namespace Mem

def u (b : BitVec 8) : Int := (b.toNat : Int)
theorem u_nonneg (a : BitVec 8) : 0 ≤ u a := Int.natCast_nonneg _
theorem u_lt (a : BitVec 8) : u a < 256 := by have := a.isLt; unfold u; omega
theorem u_inj {a b : BitVec 8} (h : u a = u b) : a = b := by
  apply BitVec.eq_of_toNat_eq; unfold u at h; omega
/-- A byte, and an int, as a cell. -/
def cb (x : BitVec 8) : Value := .int .u8 (u x)
def ci (n : Int) : Value := .int .i64 n
theorem cb_one (x : BitVec 8) : (cb x).oneCell' = true := rfl
theorem ci_one (x : Int) : (ci x).oneCell' = true := rfl

theorem add_none (b o k : Nat) : (⟨b, o, none⟩ : Addr).add k = ⟨b, o + k, none⟩ := by
  unfold Addr.add; split <;> simp_all

/-- The slice reads as l. -/
structure Row {α : Type} (f : α → Value) (w : World) (A : Option Addr) (n c : Nat) (l : List α) : Prop where
  len : l.length = n
  cap : n ≤ c
  big : n ≤ 140737488351232
  at_ : 0 < n → ∃ b o, A = some ⟨b, o, none⟩ ∧ b < w.heap.size ∧ ∀ i x, l[i]? = some x → w.cell? ⟨b, o + i, none⟩ = some (f x)

section
variable {α : Type} {f : α → Value} {w w' : World} {A : Option Addr} {n c : Nat} {l : List α}
theorem Row.nil (f : α → Value) (w : World) : Row f w none 0 0 [] := ⟨rfl, by omega, by omega, fun h => absurd h (by omega)⟩
theorem Row.empty (f : α → Value) (w : World) (A : Option Addr) (c : Nat) : Row f w A 0 c [] := ⟨rfl, by omega, by omega, fun h => absurd h (by omega)⟩
theorem Row.keep (h : Row f w A n c l) (hs : w.heap.size ≤ w'.heap.size) (hb : ∀ k, k < w.heap.size → w'.heap[k]? = w.heap[k]?) : Row f w' A n c l := by
  refine ⟨h.len, h.cap, h.big, fun h0 => ?_⟩
  obtain ⟨b, o, e, hx, hc⟩ := h.at_ h0
  refine ⟨b, o, e, by omega, fun i x hi => ?_⟩
  rw [World.cell?_of_block (w := w) (hb b hx)]
  exact hc i x hi
theorem Row.below (h : Row f w A n c l) (hb : Below w.heap.size w w') : Row f w' A n c l := h.keep hb.size hb.block
theorem Row.drew (h : Row f w A n c l) : Row f w.drew A n c l := h.keep (Nat.le_refl _) fun _ _ => rfl
theorem Row.drewN (h : Row f w A n c l) (q : Nat) : Row f (w.drewN q) A n c l := h.keep (Nat.le_refl _) fun _ _ => rfl
theorem Row.alloc (h : Row f w A n c l) (o : Obj) : Row f (w.alloc o) A n c l := h.below ((Below.refl _ w).alloc (Nat.le_refl _) o)

def tailA (A : Option Addr) (c k : Nat) : Option Addr := if c = k then A else A.map (·.add k)
theorem Row.tail (h : Row f w A n c l) {k : Nat} (hk : k ≤ n) : Row f w (tailA A c k) (n - k) (c - k) (l.drop k) := by
  have hl := h.len
  have hc := h.cap
  have hb := h.big
  refine ⟨by simp [hl], by omega, by omega, fun h0 => ?_⟩
  obtain ⟨b, o, e, hx, hcell⟩ := h.at_ (by omega)
  refine ⟨b, o + k, ?_, hx, fun i x hi => ?_⟩
  · unfold tailA
    rw [if_neg (by omega), e]
    simp [add_none]
  · rw [List.getElem?_drop] at hi
    have := hcell _ _ hi
    rwa [Nat.add_assoc]
theorem Row.head (h : Row f w A n c l) {k : Nat} (hk : k ≤ n) : Row f w A k c (l.take k) := by
  have hl := h.len
  have hc := h.cap
  have hb := h.big
  refine ⟨by simp [hl]; omega, by omega, by omega, fun h0 => ?_⟩
  obtain ⟨b, o, e, hx, hcell⟩ := h.at_ (by omega)
  refine ⟨b, o, e, hx, fun i x hi => ?_⟩
  rw [List.getElem?_take] at hi
  split at hi
  · exact hcell _ _ hi
  · cases hi
theorem Row.mid (h : Row f w A n c l) {k j : Nat} (hk : k ≤ j) (hj : j ≤ n) : Row f w (tailA A c k) (j - k) (c - k) ((l.drop k).take (j - k)) := by
  exact (h.tail (by omega)).head (by omega)
/-- One cell. -/
theorem Row.cell (h : Row f w A n c l) {i : Nat} {x : α} (hi : l[i]? = some x) : ∃ b o, A = some ⟨b, o, none⟩ ∧ w.cell? ⟨b, o + i, none⟩ = some (f x) := by
  have : i < l.length := (List.getElem?_eq_some_iff.1 hi).1
  obtain ⟨b, o, e, -, hc⟩ := h.at_ (by have := h.len; omega)
  exact ⟨b, o, e, hc i x hi⟩

theorem Row.get (h : Row f w A n c l) {i : Nat} (hi : i < n) : ∃ x, l[i]? = some x := ⟨_, List.getElem?_eq_getElem (by have := h.len; omega)⟩

/-- What the call owns from base on. -/
def Owns (f : α → Value) (e : TypeId) (base : Nat) (w : World) (s : Value) (n : Nat) (l : List α) : Prop := w.ownsRow base e 1 s n (l.map f)
theorem Owns.nil (f : α → Value) (e : TypeId) (base : Nat) (w : World) : Owns f e base w (.slice none 0 0) 0 [] := World.ownsRow_nil _ _ _ _
theorem Owns.len {e : TypeId} {base : Nat} {s : Value} (h : Owns f e base w s n l) : l.length = n := by simpa using h.1
theorem Owns.row {e : TypeId} {base : Nat} {s : Value} (h : Owns f e base w s n l) (hn : n ≤ 140737488351232) : ∃ A c, s = .slice A n c ∧ Row f w A n c l := by
  have hl := h.len
  rcases h.2 with ⟨rfl, rfl⟩ | ⟨g, cap, cur, rfl, _, hg, hnc, hcm, hs, ht⟩
  · have : l = [] := List.eq_nil_of_length_eq_zero hl
    subst this
    exact ⟨none, 0, rfl, Row.nil f w⟩
  · refine ⟨some ⟨g, 0, none⟩, cap, rfl, hl, hnc, hn, fun _ => ⟨g, 0, rfl, (Array.getElem?_eq_some_iff.1 hg).1, fun i x hx => ?_⟩⟩
    have := World.ownsRow.cells (g := g) (h : w.ownsRow base e 1 _ n (l.map f)) rfl i (f x) (by rw [List.getElem?_map, hx]; rfl)
    simpa [add_none] using this
theorem Owns.slice {e : TypeId} {base : Nat} {s : Value} (h : Owns f e base w s n l) : ∃ A c, s = .slice A n c := by
  rcases h.2 with ⟨rfl, rfl⟩ | ⟨g, cap, cur, rfl, _⟩
  · exact ⟨none, 0, rfl⟩
  · exact ⟨_, _, rfl⟩
theorem Owns.below {e : TypeId} {base : Nat} {s : Value} (h : Owns f e base w s n l) (hb : Below w.heap.size w w') : Owns f e base w' s n l := by
  refine ⟨h.1, ?_⟩
  rcases h.2 with hn | ⟨g, cap, cur, e', hbg, hg, r⟩
  · exact .inl hn
  · exact .inr ⟨g, cap, cur, e', hbg, (hb.block g (Array.getElem?_eq_some_iff.1 hg).1).trans hg, r⟩
theorem Owns.mono {e : TypeId} {base base' : Nat} {s : Value} (h : Owns f e base w s n l) (hb : base' ≤ base) : Owns f e base' w s n l := by
  refine ⟨h.1, ?_⟩
  rcases h.2 with hn | ⟨g, cap, cur, e', hbg, r⟩
  · exact .inl hn
  · exact .inr ⟨g, cap, cur, e', Nat.le_trans hb hbg, r⟩
theorem Owns.alloc {e : TypeId} {base : Nat} {s : Value} (h : Owns f e base w s n l) (o : Obj) : Owns f e base (w.alloc o) s n l := h.below ((Below.refl _ w).alloc (Nat.le_refl _) o)
theorem Owns.drew {e : TypeId} {base : Nat} {s : Value} (h : Owns f e base w s n l) : Owns f e base w.drew s n l := h.below (Below.refl _ w).drew
/-- A new row of one's own. -/
theorem Owns.made (f : α → Value) (e : TypeId) (w : World) (l : List α) (hn : l.length ≤ maxLen) {base : Nat} (hb : base ≤ w.heap.size) : Owns f e base (w.alloc (.cells (l.map f).toArray e)) (.slice (some ⟨w.heap.size, 0, none⟩) l.length l.length) l.length l :=
  ⟨by simp, .inr ⟨w.heap.size, l.length, (l.map f).toArray, rfl, hb, heap_alloc_new w _, Nat.le_refl _, hn, by simp, by rw [Nat.mul_one]; exact List.take_of_length_le (by simp)⟩⟩
end

/-- append(s, x...) onto a row of the call's own; x nil, empty or not. -/
theorem run_append {α : Type} {P : Program} {f : α → Value} (hf : ∀ x, (f x).oneCell' = true) {t e : TypeId} (ht : P.underlying t = some (.slice e)) {z : Value} {bytes : Nat} (hinfo : (P.info? e).map (fun i => (i.zero, i.size, i.bytes)) = some (some z, 1, bytes)) (hzs : z.cells.size = 1)
    (w : World) (base : Nat) (s : Value) (n : Nat) (l : List α) (hown : Owns f e base w s n l) (A : Option Addr) (m c : Nat) (l' : List α) (hx : Row f w A m c l')
    (hbig : n + m ≤ 281474976710656) (hby : ((n + m) + (n + m) / 4 + 192) * bytes ≤ 281474976710656) (hbase : base ≤ w.heap.size) :
    ∃ s' w', (Builtin.append_ #[t, t] t #[s, .slice A m c]).run P w = .ok s' w' ∧ Owns f e base w' s' (n + m) (l ++ l') ∧ Below base w w' ∧ (w' = w ∧ s' = s ∧ m = 0 ∨ 0 < n + m ∨ s' ≠ .slice none 0 0) := by
  obtain ⟨i, hi, hz0, hz1, hz2⟩ := info_parts hinfo
  have hone : ∀ q ∈ l'.map f, q.oneCell' = true := by
    intro q hq
    obtain ⟨x, _, rfl⟩ := List.mem_map.1 hq
    exact hf x
  rcases A with _ | ad
  · have hm : m = 0 := by
      rcases Nat.eq_zero_or_pos m with h0 | h0
      · exact h0
      · obtain ⟨b, o, e, _⟩ := hx.at_ h0
        cases e
    have hl : l' = [] := List.eq_nil_of_length_eq_zero (by rw [hx.len, hm])
    subst hm hl
    refine ⟨s, w, ?_, by simpa using hown, Below.refl _ _, .inl ⟨rfl, rfl, rfl⟩⟩
    rcases hown.2 with ⟨rfl, rfl⟩ | ⟨b, cap, cur, rfl, _, _, hnc, _⟩
    · simp [Builtin.append_, run_underlying ht, sizeOf, typeInfo, hi, Builtin.lenOf, Builtin.firstCells]
    · simp [Builtin.append_, run_underlying ht, sizeOf, typeInfo, hi, Builtin.lenOf, Builtin.firstCells, hnc, storeCells]
  · have hcells : ∀ j q, (l'.map f)[j]? = some q → w.cell? (ad.add j) = some q := by
      intro j q hq
      rw [List.getElem?_map] at hq
      obtain ⟨x, hxj, rfl⟩ := Option.map_eq_some_iff.1 hq
      have hlt : j < l'.length := (List.getElem?_eq_some_iff.1 hxj).1
      obtain ⟨b, o, e, _, hc⟩ := hx.at_ (by have := hx.len; omega)
      injection e with e
      subst e
      rw [add_none]
      exact hc j x hxj
    obtain ⟨s', w', hrun, h2, h3, h4⟩ := run_append_own_wide (P := P) w base t t e i _ 1 bytes ht hi hz0 hz1 hz2 hzs (by omega) s n _ hown ad m c (l'.map f) (by simp [hx.len]) hcells hone (by unfold maxLen; omega) hby hbase
    refine ⟨s', w', hrun, by unfold Owns; rw [List.map_append]; exact h2, (Below.refl base w).grown h3 hbase (fun k hk => (World.ownsRow.lt hown k hk).1), ?_⟩
    rcases Nat.eq_zero_or_pos (n + m) with h0 | h0
    · by_cases hn : s' = .slice none 0 0
      · obtain ⟨e1, e2⟩ := h4.1 hn
        subst e1
        refine .inl ⟨?_, hn, e2⟩
        subst hn e2
        have hnil : (Builtin.append_ #[t, t] t #[.slice none 0 0, .slice (some ad) 0 c]).run P w = .ok (.slice none 0 0) w := by
          simp [Builtin.append_, run_underlying ht, sizeOf, typeInfo, hi, Builtin.lenOf, Builtin.firstCells, loadCells, loadCellsFrom]
        rw [hnil] at hrun
        injection hrun with h1 h2
        exact h2.symm
      · exact .inr (.inr hn)
    · exact .inr (.inl h0)

theorem wpList_append_row {α : Type} {P : Program} {f : α → Value} (hf : ∀ x, (f x).oneCell' = true) {t e : TypeId} (ht : P.underlying t = some (.slice e)) {z : Value} {bytes : Nat} (hinfo : (P.info? e).map (fun i => (i.zero, i.size, i.bytes)) = some (some z, 1, bytes)) (hzs : z.cells.size = 1)
    {w : World} {ops : Array Oper} {rest : List Oper} {o : Oper} {a : Act} {Q : Exit → Act → World → Prop} (hgd : o.guard = none) (s x : Operand)
    (ho : o.op = .call { callee := .builtin .append, args := #[s, x], argTypes := #[t, t] }) (hty : o.type = t)
    (base : Nat) (sv : Value) (n : Nat) (l : List α) (hs : a.eval s = sv) (hown : Owns f e base w sv n l) (A : Option Addr) (m c : Nat) (l' : List α) (hx : a.eval x = .slice A m c) (h : Row f w A m c l')
    (hbig : n + m ≤ 281474976710656) (hby : ((n + m) + (n + m) / 4 + 192) * bytes ≤ 281474976710656) (hbase : base ≤ w.heap.size)
    (hk : ∀ A' c' w', Owns f e base w' (.slice A' (n + m) c') (n + m) (l ++ l') → Below base w w' → wpList P ops Q rest (a.put o.dst (.slice A' (n + m) c')) w') :
    wpList P ops Q (o :: rest) a w := by
  refine wpList_plain hgd fun K hK => ?_
  obtain ⟨s', w', hrun, h2, h3, -⟩ := run_append hf ht hinfo hzs w base sv n l hown A m c l' h hbig hby hbase
  obtain ⟨A', c', rfl⟩ := h2.slice
  unfold Oper.wp execOp
  simp only [ho, hty, resolve, invoke, builtin, Sem.run_bind, Sem.run_pure, Result.andThen_ok, List.map_toArray, List.map_cons, List.map_nil, hs, hx, hrun]
  exact hK _ _ (hk A' c' w' h2 h3)

/-! ### Bytes -/
theorem info_byte : (Tryz.prog.info? 5).map (fun i => (i.zero, i.size, i.bytes)) = some (some (.int .u8 0), 1, 1) := by kernel_rfl

theorem run_tail (A : Option Addr) (n c k : Nat) (hk : k ≤ n) (w : World) : (Instr.slice 32 (.slice A n c) (some (.int .i64 (k : Int))) none none).run Tryz.prog w = .ok (.slice (tailA A c k) (n - k) (c - k)) w := by
  obtain ⟨i, hi, hz0, hz1, hz2⟩ := info_parts info_byte
  have h1 : (k : Int) ≤ (n : Int) := by omega
  have h0 : (0 : Int) ≤ (k : Int) := by omega
  simp [Instr.slice, Instr.sliceBounds, run_sliceBound, h0, h1, run_underlying Tryz.underlying32, sizeOf, typeInfo, hi, hz1, tailA]
theorem run_head (A : Option Addr) (n c k : Nat) (h : k ≤ c) (w : World) : (Instr.slice 32 (.slice A n c) none (some (.int .i64 (k : Int))) none).run Tryz.prog w = .ok (.slice A k c) w := by
  obtain ⟨i, hi, hz0, hz1, hz2⟩ := info_parts info_byte
  have e : (if c = 0 then A else A.map (·.add 0)) = A := by
    split
    · rfl
    · cases A with
      | none => rfl
      | some x => simp [Addr.add]
  have h1 : (k : Int) ≤ (c : Int) := by omega
  have h0 : (0 : Int) ≤ (k : Int) := by omega
  simp [Instr.slice, Instr.sliceBounds, run_sliceBound, h0, h1, run_underlying Tryz.underlying32, sizeOf, typeInfo, hi, e]
theorem run_mid (A : Option Addr) (n c k j : Nat) (hk : k ≤ j) (hj : j ≤ c) (w : World) : (Instr.slice 32 (.slice A n c) (some (.int .i64 (k : Int))) (some (.int .i64 (j : Int))) none).run Tryz.prog w = .ok (.slice (tailA A c k) (j - k) (c - k)) w := by
  obtain ⟨i, hi, hz0, hz1, hz2⟩ := info_parts info_byte
  have h1 : (k : Int) ≤ (j : Int) := by omega
  have h0 : (0 : Int) ≤ (k : Int) := by omega
  have h2 : (j : Int) ≤ (c : Int) := by omega
  have h3 : (0 : Int) ≤ (j : Int) := by omega
  simp [Instr.slice, Instr.sliceBounds, run_sliceBound, h0, h1, h2, h3, run_underlying Tryz.underlying32, sizeOf, typeInfo, hi, hz1, tailA]

/-- The bytes as a text. -/
def str (l : List (BitVec 8)) : ByteArray := strOfNums (l.map u)
theorem str_inj {l l' : List (BitVec 8)} (h : str l = str l') : l = l' := by
  unfold str strOfNums at h
  simp only [List.map_map, ByteArray.mk.injEq] at h
  have h := congrArg Array.toList h
  refine List.map_inj_right ?_ |>.1 h
  intro x y hxy
  have h1 := x.isLt
  have h2 := y.isLt
  apply BitVec.eq_of_toNat_eq
  have := congrArg UInt8.toNat hxy
  simp [u] at this
  omega
theorem str_eq (l l' : List (BitVec 8)) : (str l = str l') = (l = l') := propext ⟨str_inj, fun h => by rw [h]⟩
theorem str_beq (l l' : List (BitVec 8)) : ((str l).toList == (str l').toList) = decide (l = l') := by
  by_cases h : l = l'
  · subst h; simp
  · have : (str l).toList ≠ (str l').toList := fun e => by
      rw [ByteArray.toList_eq, ByteArray.toList_eq] at e
      exact h (str_inj (Go.WideShapes.bytes_inj e))
    simp [h, this]
theorem run_str {w : World} {A : Option Addr} {n c : Nat} {l : List (BitVec 8)} (h : Row cb w A n c l) : (convert 32 9 (.slice A n c)).run Tryz.prog w = .ok (.string (str l)) w := by
  rcases Nat.eq_zero_or_pos n with h0 | h0
  · have hl : l = [] := List.eq_nil_of_length_eq_zero (by rw [h.len, h0])
    subst hl h0
    rw [run_convert_bytes_string w _ _ _ _ _ c Tryz.underlying32 Tryz.underlying5 Tryz.underlying9]
    cases A with
    | none => simp [Conv.bytesToString, str, strOfNums]; rfl
    | some a =>
      rw [run_bytesToString w a 0 c [] (by simp [loadCells, loadCellsFrom])]
      rfl
  · obtain ⟨b, o, rfl, -, hc⟩ := h.at_ h0
    exact run_convert_bytes_arg w _ _ Tryz.underlying32 Tryz.underlying5 b o n c (l.map u) (by simp [h.len]) (fun i hi => by
      have hi' : i < l.length := by rw [h.len]; exact hi
      rw [hc i _ (List.getElem?_eq_getElem hi')]
      simp [cb, List.getD, List.getElem?_map, List.getElem?_eq_getElem hi']) _ Tryz.underlying9

theorem ret_int {k : IntKind} {a b : Int} (h : a = b) : Ending.returned (.int k a) = .returned (.int k b) := by rw [h]
theorem ret_bool {a b : Bool} (h : a = b) : Ending.returned (.bool a) = .returned (.bool b) := by rw [h]
end Mem
end Go.Proofs.YtedandbkdjmfhaaGreat
/-
  zone IN PLAIN: what may be, what an append gives, and why not.
-/
namespace Go.Proofs.YtedandbkdjmfhaaGreat
open Go.RowKit Mem
namespace Zon
abbrev B8 := BitVec 8
/-- A zone, in plain. -/
structure Zn where
  st : Int
  fc : Int
  data : List B8
def nilZ : Zn := ⟨0, 0, []⟩
def Zn.len (z : Zn) : Int := (z.data.length : Int)
/-- A zone as a value. -/
def zv (z : Zn) (D : Option Addr) (c : Nat) : Value := .agg #[.int .i64 z.st, .int .i64 z.fc, .slice D z.data.length c]

/-- How many bytes may stand in a state. -/
def mayB (st n most : Int) : Bool :=
  bif st == 0 then n == 0 else bif (st == 1 || st == 3) then !(n == 0) && decide (n < most) else bif st == 2 then decide (n < most) else bif st == 4 then decide (n ≤ most) else false
def okB (z : Zn) (most : Int) : Bool := !decide (most < 1) && (!decide (65536 < most) && (!decide (z.fc < 0) && mayB z.st z.len most))
def errOf (b : Bool) : Int := bif b then 0 else 1
/-- Why bytes can't be appended. -/
def appErr (z : Zn) (most : Int) (n : Nat) : Int :=
  bif !okB z most then 1 else bif n == 0 then 1 else bif z.st == 4 then 41 else bif decide (most < z.len + n) then 40 else 0
def stB (st n most : Int) : Int := bif n == most then 4 else bif st == 2 then 2 else 1
def appZ (z : Zn) (most : Int) (b : List B8) : Zn := ⟨stB z.st (z.len + b.length) most, z.fc, z.data ++ b⟩
def inZ (z : Zn) (st : Int) : Zn := ⟨st, z.fc, z.data⟩

theorem mayB_le {st most : Int} {n : Nat} (hm : 0 ≤ most) (h : mayB st n most = true) : (n : Int) ≤ most := by
  unfold mayB at h
  rcases e0 : (st == 0) <;> rw [e0] at h
  · rcases e1 : (st == 1 || st == 3) <;> rw [e1] at h
    · rcases e2 : (st == 2) <;> rw [e2] at h
      · rcases e4 : (st == 4) <;> rw [e4] at h
        · simp at h
        · simpa using h
      · simp at h; omega
    · simp at h; omega
  · simp at h; omega
theorem ok_parts {z : Zn} {most : Int} (h : okB z most = true) : 1 ≤ most ∧ most ≤ 65536 ∧ 0 ≤ z.fc ∧ mayB z.st z.len most = true ∧ z.len ≤ most := by
  unfold okB at h
  simp only [Bool.and_eq_true, Bool.not_eq_true', decide_eq_false_iff_not] at h
  obtain ⟨h1, h2, h3, h4⟩ := h
  exact ⟨by omega, by omega, by omega, h4, mayB_le (by omega) h4⟩
theorem ok_not {z : Zn} {most : Int} (h : okB z most = false) : most < 1 ∨ 65536 < most ∨ z.fc < 0 ∨ mayB z.st z.len most = false := by
  unfold okB at h
  simp only [Bool.and_eq_false_iff, Bool.not_eq_false', decide_eq_true_eq] at h
  exact h
/-- The ways that an append may go. -/
theorem app_cases (z : Zn) (most : Int) (n : Nat) :
    (okB z most = false ∧ appErr z most n = 1) ∨ (okB z most = true ∧ n = 0 ∧ appErr z most n = 1) ∨ (okB z most = true ∧ 0 < n ∧ z.st = 4 ∧ appErr z most n = 41) ∨
      (okB z most = true ∧ 0 < n ∧ z.st ≠ 4 ∧ most < z.len + n ∧ appErr z most n = 40) ∨ (okB z most = true ∧ 0 < n ∧ z.st ≠ 4 ∧ z.len + n ≤ most ∧ appErr z most n = 0) := by
  unfold appErr
  rcases ho : okB z most
  · exact .inl ⟨rfl, rfl⟩
  · refine .inr ?_
    rcases Nat.eq_zero_or_pos n with h0 | h0
    · subst h0; exact .inl ⟨rfl, rfl, rfl⟩
    · refine .inr ?_
      have e0 : (n == 0) = false := beq_eq_false_iff_ne.2 (by omega)
      rw [e0]
      by_cases h4 : z.st = 4
      · refine .inl ⟨rfl, h0, h4, ?_⟩
        rw [h4]; rfl
      · refine .inr ?_
        have e4 : (z.st == 4) = false := beq_eq_false_iff_ne.2 h4
        rw [e4]
        by_cases hf : most < z.len + n
        · refine .inl ⟨rfl, h0, h4, hf, ?_⟩
          rw [decide_eq_true hf]; rfl
        · refine .inr ⟨rfl, h0, h4, by omega, ?_⟩
          rw [decide_eq_false hf]; rfl
theorem appErr_le (z : Zn) (most : Int) (n : Nat) : appErr z most n = 0 ∨ appErr z most n = 1 ∨ appErr z most n = 41 ∨ appErr z most n = 40 := by
  rcases app_cases z most n with ⟨-, h⟩ | ⟨-, -, h⟩ | ⟨-, -, -, h⟩ | ⟨-, -, -, -, h⟩ | ⟨-, -, -, -, h⟩ <;> simp [h]
theorem appErr_zero {z : Zn} {most : Int} {n : Nat} (h : appErr z most n = 0) : okB z most = true ∧ 0 < n ∧ z.st ≠ 4 ∧ z.len + n ≤ most := by
  rcases app_cases z most n with ⟨-, h'⟩ | ⟨-, -, h'⟩ | ⟨-, -, -, h'⟩ | ⟨-, -, -, -, h'⟩ | ⟨h1, h2, h3, h4, -⟩
  · rw [h] at h'; cases h'
  · rw [h] at h'; cases h'
  · rw [h] at h'; cases h'
  · rw [h] at h'; cases h'
  · exact ⟨h1, h2, h3, h4⟩
theorem appErr_of {z : Zn} {most : Int} {n : Nat} (h1 : okB z most = true) (h2 : 0 < n) (h3 : z.st ≠ 4) (h4 : z.len + n ≤ most) : appErr z most n = 0 := by
  unfold appErr
  rw [h1, beq_eq_false_iff_ne.2 (by omega : n ≠ 0), beq_eq_false_iff_ne.2 h3, decide_eq_false (by omega)]
  rfl
end Zon
end Go.Proofs.YtedandbkdjmfhaaGreat
/-
  A REGION THAT DRAWS ITS ORDER, STEP BY STEP BY HAND: an operation that yields the same in every world that meets S is taken first; of one that does not, alone ready, the step is walked. (My own; no program is named here.)
-/
namespace Go.Proofs.YtedandbkdjmfhaaGreat
open Go
namespace Reg
variable {P : Program} {ops : Array Oper} {Q : Exit → Act → World → Prop} {S : World → Prop} {md : Region.Mode}

/-- An operation, its parts written out, is taken first. -/
theorem take (i : Nat) {d : Option Tmp} {op : Op} {ty : TypeId} {ps : String} {af : Array _} {g : Option _} {v : Value} {fuel : Nat} {listed : Array Bool} {a : Act} {w : World} (hi : ops[i]? = some { dst := d, op := op, type := ty, pos := ps, after := af, guard := g })
    (hs : Region.noSelect ops = true) (hf : Region.free md ops listed i = true) (hr : (Region.ready md ops listed).contains i = true)
    (hQ : ∀ c a w, Q (.panic c) (a.put d v) w → Q (.panic c) a w) (hy : YieldsIf P ops S { dst := d, op := op, type := ty, pos := ps, after := af, guard := g } v a) (hS : S w)
    (h : wpAnyH P md ops Q S fuel (listed.setIfInBounds i true) (a.put d v) w) : wpAnyH P md ops Q S (fuel + 1) listed a w :=
  wpAnyH_take hi hs hf hr hQ hy hS h

/-- An operation is taken first: it yields v in every world that meets S, or does not come up. -/
theorem tk (i : Nat) {d : Option Tmp} {op : Op} {ty : TypeId} {ps : String} {af : Array _} {g : Option _} {v : Value} {fuel : Nat} {listed listed' : Array Bool} {a a' : Act} {w : World} (hi : ops[i]? = some { dst := d, op := op, type := ty, pos := ps, after := af, guard := g })
    (h : wpAnyH P md ops Q S fuel listed' a' w)
    (hs : Region.noSelect ops = true := by kernel_rfl) (hf : Region.free md ops listed i = true := by kernel_rfl) (hr : (Region.ready md ops listed).contains i = true := by kernel_rfl)
    (hQ : ∀ c a w, Q (.panic c) (a.put d v) w → Q (.panic c) a w := by exact fun _ _ _ h => h)
    (hy : YieldsIf P ops S { dst := d, op := op, type := ty, pos := ps, after := af, guard := g } v a := by
      first
        | (refine Or.inl ⟨by rfl, ?_⟩; intro W hSW; (try dsimp only at hSW); (try go_split_ands); go_simp; (try (with_reducible rfl)); done)
        | exact Or.inr ⟨by rfl, rfl⟩)
    (hS : S w := by assumption)
    (hp : a.put d v = a' := by (try simp only [Act.put, List.setIfInBounds_toArray, List.set_cons_zero, List.set_cons_succ]); rfl)
    (hl : listed.setIfInBounds i true = listed' := by (try simp only [List.setIfInBounds_toArray, List.set_cons_zero, List.set_cons_succ]); rfl) :
    wpAnyH P md ops Q S (fuel + 1) listed a w := by
  subst hp hl
  exact take i hi hs hf hr hQ hy hS h

/-- The one operation that may come up is walked. -/
theorem step (i : Nat) {d : Option Tmp} {op : Op} {ty : TypeId} {ps : String} {af : Array _} {g : Option _} {fuel : Nat} {listed : Array Bool} {a : Act} {w : World} (hi : ops[i]? = some { dst := d, op := op, type := ty, pos := ps, after := af, guard := g })
    (hr : Region.ready md ops listed = [i]) (hw : Region.wanted { dst := d, op := op, type := ty, pos := ps, after := af, guard := g } (yielded ops a.tmps) = true)
    (h : ∀ K' : Act → World → Prop, Shut (∀ a w, S w → (S w → wpAnyH P md ops Q S fuel (listed.setIfInBounds i true) a w) → K' a w) → Oper.wp P { dst := d, op := op, type := ty, pos := ps, after := af, guard := g } a w K' Q) :
    wpAnyH P md ops Q S (fuel + 1) listed a w :=
  wpAnyH_ready hr (by simp) (AllReadyH.cons hi (fun K hK => by rw [if_pos hw]; exact h K hK) AllReadyH.nil)

/-- Two that may come up: each is walked. -/
theorem step2 (i j : Nat) {d : Option Tmp} {op : Op} {ty : TypeId} {ps : String} {af : Array _} {g : Option _} {d' : Option Tmp} {op' : Op} {ty' : TypeId} {ps' : String} {af' : Array _} {g' : Option _} {fuel : Nat} {listed : Array Bool} {a : Act} {w : World}
    (hi : ops[i]? = some { dst := d, op := op, type := ty, pos := ps, after := af, guard := g }) (hj : ops[j]? = some { dst := d', op := op', type := ty', pos := ps', after := af', guard := g' })
    (hr : Region.ready md ops listed = [i, j]) (hw : Region.wanted { dst := d, op := op, type := ty, pos := ps, after := af, guard := g } (yielded ops a.tmps) = true)
    (hw' : Region.wanted { dst := d', op := op', type := ty', pos := ps', after := af', guard := g' } (yielded ops a.tmps) = true)
    (h : ∀ K' : Act → World → Prop, Shut (∀ a w, S w → (S w → wpAnyH P md ops Q S fuel (listed.setIfInBounds i true) a w) → K' a w) → Oper.wp P { dst := d, op := op, type := ty, pos := ps, after := af, guard := g } a w K' Q)
    (h' : ∀ K' : Act → World → Prop, Shut (∀ a w, S w → (S w → wpAnyH P md ops Q S fuel (listed.setIfInBounds j true) a w) → K' a w) → Oper.wp P { dst := d', op := op', type := ty', pos := ps', after := af', guard := g' } a w K' Q) :
    wpAnyH P md ops Q S (fuel + 1) listed a w :=
  wpAnyH_ready hr (by simp) (AllReadyH.cons hi (fun K hK => by rw [if_pos hw]; exact h K hK) (AllReadyH.cons hj (fun K hK => by rw [if_pos hw']; exact h' K hK) AllReadyH.nil))

/-- Three that may come up: each is walked. -/
theorem step3 (i j l : Nat) {d : Option Tmp} {op : Op} {ty : TypeId} {ps : String} {af : Array _} {g : Option _} {d' : Option Tmp} {op' : Op} {ty' : TypeId} {ps' : String} {af' : Array _} {g' : Option _} {d'' : Option Tmp} {op'' : Op} {ty'' : TypeId} {ps'' : String} {af'' : Array _} {g'' : Option _} {fuel : Nat} {listed : Array Bool} {a : Act} {w : World}
    (hi : ops[i]? = some { dst := d, op := op, type := ty, pos := ps, after := af, guard := g }) (hj : ops[j]? = some { dst := d', op := op', type := ty', pos := ps', after := af', guard := g' }) (hl : ops[l]? = some { dst := d'', op := op'', type := ty'', pos := ps'', after := af'', guard := g'' })
    (hr : Region.ready md ops listed = [i, j, l]) (hw : Region.wanted { dst := d, op := op, type := ty, pos := ps, after := af, guard := g } (yielded ops a.tmps) = true)
    (hw' : Region.wanted { dst := d', op := op', type := ty', pos := ps', after := af', guard := g' } (yielded ops a.tmps) = true)
    (hw'' : Region.wanted { dst := d'', op := op'', type := ty'', pos := ps'', after := af'', guard := g'' } (yielded ops a.tmps) = true)
    (h : ∀ K' : Act → World → Prop, Shut (∀ a w, S w → (S w → wpAnyH P md ops Q S fuel (listed.setIfInBounds i true) a w) → K' a w) → Oper.wp P { dst := d, op := op, type := ty, pos := ps, after := af, guard := g } a w K' Q)
    (h' : ∀ K' : Act → World → Prop, Shut (∀ a w, S w → (S w → wpAnyH P md ops Q S fuel (listed.setIfInBounds j true) a w) → K' a w) → Oper.wp P { dst := d', op := op', type := ty', pos := ps', after := af', guard := g' } a w K' Q)
    (h'' : ∀ K' : Act → World → Prop, Shut (∀ a w, S w → (S w → wpAnyH P md ops Q S fuel (listed.setIfInBounds l true) a w) → K' a w) → Oper.wp P { dst := d'', op := op'', type := ty'', pos := ps'', after := af'', guard := g'' } a w K' Q) :
    wpAnyH P md ops Q S (fuel + 1) listed a w :=
  wpAnyH_ready hr (by simp) (AllReadyH.cons hi (fun K hK => by rw [if_pos hw]; exact h K hK) (AllReadyH.cons hj (fun K hK => by rw [if_pos hw']; exact h' K hK) (AllReadyH.cons hl (fun K hK => by rw [if_pos hw'']; exact h'' K hK) AllReadyH.nil)))
end Reg
end Go.Proofs.YtedandbkdjmfhaaGreat
/-
  ZONES IN MEMORY; slices.Grow OF nil, slices.Concat AND bytes.Clone, OVER BYTES.
-/
namespace Go.Proofs.YtedandbkdjmfhaaGreat
open Go.RowKit Mem
namespace Zon

/-- What a call gave: a row of the call's own. -/
def Gave {α : Type} (f : α → Value) (e : TypeId) (base : Nat) (w : World) (l : List α) (en : Ending) (w' : World) : Prop :=
  ∃ A k c, en = .returned (.slice A k c) ∧ Owns f e base w' (.slice A k c) k l ∧ Below base w w'
/-- A row and an error, as a call gave them. -/
def GaveE {α : Type} (f : α → Value) (e : TypeId) (base : Nat) (w : World) (l : List α) (er : Int) (en : Ending) (w' : World) : Prop :=
  ∃ A k c, en = .returned (.tuple #[.slice A k c, .int .i64 er]) ∧ Owns f e base w' (.slice A k c) k l ∧ Below base w w'
theorem gave_row {α : Type} {f : α → Value} {e : TypeId} {l : List α} {w' : World} {b : Nat} {X : Option Addr} {k c : Nat} (h : Owns f e b w' (.slice X k c) k l) (hn : l.length ≤ 140737488351232) : Row f w' X l.length c l ∧ k = l.length := by
  obtain rfl : l.length = k := h.len
  obtain ⟨A, c', e, hr⟩ := h.row hn
  injection e with e1 _ e3
  subst e1 e3
  exact ⟨hr, rfl⟩

theorem frozen_of {w : World} {g : Nat} {cs : Array Value} {t : TypeId} (h : w.heap[g]? = some (.cells cs t (0, 0))) (i : Nat) : w.frozen? ⟨g, i, none⟩ = false := by simp [World.frozen?, h]
theorem heap_set {w : World} {g : Nat} {cs : Array Value} {e : TypeId} (h : w.heap[g]? = some (.cells cs e (0, 0))) (i : Nat) (v : Value) : (w.setCell ⟨g, i, none⟩ v).heap[g]? = some (.cells (cs.setIfInBounds i v) e (0, 0)) := by
  simp [World.setCell, Array.getElem?_modify, h]
/-- A struct in a block of its own. -/
def Cells (w : World) (g : Nat) (t : TypeId) (cs : Array Value) : Prop := w.heap[g]? = some (.cells cs t (0, 0))
theorem Cells.below {w w' : World} {g : Nat} {t : TypeId} {cs : Array Value} (h : Cells w g t cs) (hb : Below w.heap.size w w') : Cells w' g t cs := (hb.block _ (Array.getElem?_eq_some_iff.1 h).1).trans h
theorem Cells.lt {w : World} {g : Nat} {t : TypeId} {cs : Array Value} (h : Cells w g t cs) : g < w.heap.size := (Array.getElem?_eq_some_iff.1 h).1
theorem Cells.cell {w : World} {g : Nat} {t : TypeId} {cs : Array Value} (h : Cells w g t cs) (i : Nat) : w.cell? ⟨g, i, none⟩ = cs[i]? := cell_of_row _ _ _ _ _ _ h
theorem Cells.frozen {w : World} {g : Nat} {t : TypeId} {cs : Array Value} (h : Cells w g t cs) (i : Nat) : w.frozen? ⟨g, i, none⟩ = false := frozen_of h i
theorem Cells.set_ {w : World} {g : Nat} {t : TypeId} {cs : Array Value} (h : Cells w g t cs) (i : Nat) (v : Value) : Cells (w.setCell ⟨g, i, none⟩ v) g t (cs.setIfInBounds i v) := heap_set h i v
theorem Cells.set_other {w : World} {g g' : Nat} {t : TypeId} {cs : Array Value} (h : Cells w g t cs) (hne : g' ≠ g) (i : Nat) (v : Value) : Cells (w.setCell ⟨g', i, none⟩ v) g t cs := (Below.heap_setCell _ _ _ _ (Ne.symm hne)).trans h
theorem Cells.new (w : World) (cs : Array Value) (t : TypeId) : Cells (w.alloc (.cells cs t)) w.heap.size t cs := heap_alloc_new w _

theorem head0 (A : Option Addr) (n c : Nat) (w : World) : (Instr.slice 32 (.slice A n c) none (some (.int .i64 0)) none).run Tryz.prog w = .ok (.slice A 0 c) w := run_head A n c 0 (by omega) w

set_option maxRecDepth 100000 in
set_option maxHeartbeats 800000 in
theorem growNil_any (n : Nat) (hn : n ≤ 140737488351232) (w : World) :
    Calls Tryz.prog 98 #[.slice none 0 0, .int .i64 n] w (Gave cb 5 w.heap.size w ([] : List (BitVec 8))) := by
  rcases Nat.eq_zero_or_pos n with h0 | h0
  · subst h0
    go_enter Tryz.func98, Tryz.ntmps98
    go_wp2
    go_ret
    exact ⟨_, _, _, rfl, Owns.nil _ _ _ _, Below.refl _ _⟩
  · obtain ⟨i, hi, hz0, hz1, hz2⟩ := info_parts info_byte
    have hr := fun w => Lib.run_append_nil_zeros (P := Tryz.prog) w 32 3 32 5 i _ .i64 .i64 Tryz.underlying32 Tryz.underlying3 hi hz0 n h0 (by omega) (by omega) (by rw [hz2]; omega)
    have HR := Lib.hid hr
    have hsl := head0
    clear hr hi hz0 hz1 hz2
    go_enter Tryz.func98, Tryz.ntmps98
    go_wp2_with (at_builtin
                 refine Lib.wpList_append_run _ rfl (.tmp 20) (.tmp 21) _ _ rfl _ _ rfl rfl _ _ (HR.out _) ?_)
    go_ret
    refine ⟨_, _, _, rfl, ?_, (Below.refl _ w).drew.alloc (Nat.le_refl _) _⟩
    refine World.ownsRow_made w.drew _ _ (Nat.le_refl _) (grownCap_le_maxLen w n 0 _ (by unfold maxLen; omega)) ?_
    have := grownCap_ge w n 0 5
    rw [Array.size_append, size_zeroCells, size_zeroCells]
    show n * 1 + (grownCap w n 0 5 - n) * 1 = grownCap w n 0 5 * 1
    omega

/-- A piece: where it lies, how long it is, its capacity, what it reads as. -/
structure Piece where
  A : Option Addr
  n : Nat
  c : Nat
  l : List (BitVec 8)
def Piece.val (p : Piece) : Value := .slice p.A p.n p.c
theorem Piece.one (p : Piece) : (Piece.val p).oneCell' = true := rfl
def total (ps : List Piece) : Nat := (ps.map Piece.n).sum
def joined (ps : List Piece) : List (BitVec 8) := ps.flatMap Piece.l
theorem total_snoc (ps : List Piece) (p : Piece) : total (ps ++ [p]) = total ps + p.n := by simp [total]
theorem joined_snoc (ps : List Piece) (p : Piece) : joined (ps ++ [p]) = joined ps ++ p.l := by simp [joined]
theorem total_take_le (ps : List Piece) (k : Nat) : total (ps.take k) ≤ total ps := by
  conv => rhs; rw [← List.take_append_drop k ps]
  unfold total
  rw [List.map_append, List.sum_append]
  omega

set_option maxRecDepth 100000 in
set_option maxHeartbeats 1600000 in
theorem concat_any {A : Option Addr} {n c : Nat} {ps : List Piece} {w : World} (h : Row Piece.val w A n c ps) (hp : ∀ p ∈ ps, Row cb w p.A p.n p.c p.l) (ht : total ps ≤ 140737488351232) :
    Calls Tryz.prog 89 #[.slice A n c] w (Gave cb 5 w.heap.size w (joined ps)) := by
  have HR := Lib.hid h
  have HP := Lib.hid hp
  have hb := h.big
  have hjl : Hid ((joined ps).length = total ps) := by
    show _ = _
    clear HR HP h hb ht
    induction ps with
    | nil => rfl
    | cons p ps ih =>
      have h1 := (hp p (by simp)).len
      have h2 := ih fun q hq => hp q (by simp [hq])
      simp only [joined, total, List.flatMap_cons, List.length_append, List.map_cons, List.sum_cons] at *
      omega
  clear h hp
  go_enter Tryz.func89, Tryz.ntmps89
  go_wp2
  go_loop [3, 11] (fun s i => ∃ k z : Nat, i = .int .i64 k ∧ s = .int .i64 z ∧ k ≤ n ∧ z ≤ total ps ∧ Hid (total (ps.take k) = z)) (fun _ i => n - (intOf i).toNat)
  case atStart => exact ⟨0, 0, rfl, rfl, by omega, by omega, rfl⟩
  case round =>
    obtain ⟨k, z, rfl, rfl, hk, hz, hT⟩ := hrel
    by_cases hlt : k < n
    · obtain ⟨p, hp⟩ := HR.out.get hlt
      obtain ⟨b, o, rfl, hcell⟩ := HR.out.cell hp
      have hcell' : w.cell? ⟨b, o + k, none⟩ = some (.slice p.A p.n p.c) := hcell
      have hzn : z + p.n ≤ total ps := by
        have h1 := total_take_le ps (k + 1)
        rw [List.take_add_one, hp] at h1
        have h2 := total_snoc (ps.take k) p
        have := hT.out
        simp only [Option.toList_some] at h1
        omega
      have HE := Lib.hid hp
      have hpn := (HP.out p (List.mem_of_getElem? hp)).big
      clear hcell hp
      go_wp2
      go_round
      case rel => exact ⟨k + 1, z + p.n, by go_num, by go_num, by omega, hzn, by show _ = _; rw [List.take_add_one, HE.out, Option.toList_some, total_snoc, hT.out]⟩
      case measure => simp [intOf]; omega
    · have hkn : ps.take k = ps := List.take_of_length_le (by have := HR.out.len; omega)
      have hz2 : total ps = z := by rw [← hT.out, hkn]
      have HZ := Lib.hid hz2
      have HG := Lib.hid (fun w => growNil_any z (by omega) w)
      clear hkn hz2 hT
      go_wp2_with (go_at_call 98; refine (HG.out _).mono ?_; rintro e w2 ⟨G, g, gc, rfl, hG, hb2⟩; obtain rfl : g = 0 := hG.len.symm; have OG := Lib.hid hG; have B2 := Lib.hid hb2; clear hG hb2)
      go_loopw [6, 27] (fun s i wr => ∃ (S : Option Addr) (j d q : Nat), s = .slice S j d ∧ i = .int .i64 q ∧ q ≤ n ∧ Hid (Owns cb 5 w.heap.size wr (.slice S j d) j (joined (ps.take q)) ∧ Below w.heap.size w wr ∧ j = total (ps.take q))) (fun _ i _ => n - (intOf i).toNat)
      case atStart => exact ⟨G, 0, gc, 0, rfl, rfl, by omega, OG.out, B2.out, rfl⟩
      case round =>
        obtain ⟨S, j, d, q, rfl, rfl, hq, hO⟩ := hrel
        by_cases hlq : q < n
        · obtain ⟨p, hp⟩ := HR.out.get hlq
          obtain ⟨b, o, rfl, hcell⟩ := (HR.out.below hO.out.2.1).cell hp
          have hcell' : wr.cell? ⟨b, o + q, none⟩ = some (.slice p.A p.n p.c) := hcell
          have hzn : Hid (j + p.n ≤ total ps) := by
            have h1 := total_take_le ps (q + 1)
            rw [List.take_add_one, hp] at h1
            have h2 := total_snoc (ps.take q) p
            have := hO.out.2.2
            simp only [Option.toList_some] at h1
            show _ ≤ _
            omega
          have HE := Lib.hid hp
          have RP := Lib.hid ((HP.out p (List.mem_of_getElem? hp)).below hO.out.2.1)
          clear hcell hp
          go_wp2_with (at_builtin
                       refine wpList_append_row cb_one Tryz.underlying32 info_byte rfl rfl (.tmp 31) (.tmp 32) rfl rfl w.heap.size (.slice S j d) j _ rfl hO.out.1 p.A p.n p.c p.l rfl RP.out (by have := hzn.out; omega) (by have := hzn.out; omega) hO.out.2.1.size ?_
                       intro A3 c3 w3 hown3 hb3
                       have O3 := Lib.hid hown3
                       have B3 := Lib.hid hb3
                       clear hown3 hb3)
          go_roundw
          case rel =>
            refine ⟨A3, j + p.n, c3, q + 1, rfl, by go_num, by omega, ?_, hO.out.2.1.trans B3.out, ?_⟩
            · rw [List.take_add_one, HE.out, Option.toList_some, joined_snoc]; exact O3.out
            · rw [List.take_add_one, HE.out, Option.toList_some, total_snoc, ← hO.out.2.2]
          case measure => simp [intOf]; omega
        · have hkn : ps.take q = ps := List.take_of_length_le (by have := HR.out.len; omega)
          have HK := Lib.hid hkn
          clear hkn
          go_wp2
          go_ret
          have h := hO.out
          rw [HK.out] at h
          exact ⟨_, _, _, rfl, h.1, h.2.1⟩

theorem run_eql_nil (w : World) (A : Option Addr) (n c : Nat) : (binOp .eql 32 (.slice A n c) (.slice none 0 0)).run Tryz.prog w = .ok (.bool A.isNone) w :=
  Go.run_eql_slice_nil w _ _ A n c Tryz.underlying32

set_option maxRecDepth 100000 in
theorem clone_any {A : Option Addr} {n c : Nat} {l : List B8} {w : World} (h : Row cb w A n c l) :
    Calls Tryz.prog 23 #[.slice A n c] w (Gave cb 5 w.heap.size w l) := by
  have HR := Lib.hid h
  have hb := h.big
  clear h
  have hq := fun w => run_eql_nil w A n c
  rcases A with _ | a
  · have hn : n = 0 := by
      rcases Nat.eq_zero_or_pos n with h0 | h0
      · exact h0
      · obtain ⟨b, o, e, -⟩ := HR.out.at_ h0
        cases e
    have hl : l = [] := List.eq_nil_of_length_eq_zero (by rw [HR.out.len, hn])
    subst hn hl
    have hd : (none : Option Addr).isNone = true := rfl
    rw [hd] at hq
    go_enter Tryz.func23, Tryz.ntmps23
    go_wp2
    go_ret
    exact ⟨_, _, _, rfl, Owns.nil _ _ _ _, Below.refl _ _⟩
  · have hd : (some a).isNone = false := rfl
    rw [hd] at hq
    go_enter Tryz.func23, Tryz.ntmps23
    go_wp2_with (at_builtin
                 refine wpList_append_row cb_one Tryz.underlying32 info_byte rfl rfl (.tmp 5) (.tmp 6) rfl rfl w.heap.size _ 0 [] rfl (Owns.made cb 5 w [] (by decide) (Nat.le_refl _)) (some a) n c l rfl (HR.out.alloc _) (by omega) (by omega) (by simp) ?_
                 intro A' c' w' hown' hb'
                 have O := Lib.hid (show Owns cb 5 w.heap.size w' (.slice A' n c') n l by simpa using hown')
                 have B := Lib.hid hb'
                 clear hown' hb')
    go_ret
    exact ⟨_, _, _, rfl, O.out, ((Below.refl _ w).alloc (Nat.le_refl _) _).trans B.out⟩

/-- Results of which the first is a struct in memory. -/
theorem results_zone_tmp {P : Program} {fn : Func} {p u : Tmp} {ty : TypeId} (h : fn.results = #[.cell p ty, .tmp u]) (tmps : Array Value) (w : World) (g : Nat) (t : TypeId) (cs : Array Value) (fr : Nat × Nat) (d : TypeDesc)
    (hp : tmps.getD p undef = .pointer (some ⟨g, 0, none⟩)) (hg : w.heap[g]? = some (.cells cs t fr))
    (hu : P.underlying ty = some d) (hd : (match d with | .struct _ | .array _ _ => true | _ => false) = true) (hi : (P.info? ty).map (·.size) = some cs.size) :
    (results fn tmps).run P w = .ok (.tuple #[.agg cs, tmps.getD u undef]) w := by
  have hp' : tmps[p]?.getD undef = .pointer (some ⟨g, 0, none⟩) := by simpa using hp
  simp [results, h, hp', asAddr, Result.andThen, run_loadVar_row w g t ty cs fr d hg hu hd hi]
theorem results_zone_tmp2 {P : Program} {fn : Func} {p u v : Tmp} {ty : TypeId} (h : fn.results = #[.cell p ty, .tmp u, .tmp v]) (tmps : Array Value) (w : World) (g : Nat) (t : TypeId) (cs : Array Value) (fr : Nat × Nat) (d : TypeDesc)
    (hp : tmps.getD p undef = .pointer (some ⟨g, 0, none⟩)) (hg : w.heap[g]? = some (.cells cs t fr))
    (hu : P.underlying ty = some d) (hd : (match d with | .struct _ | .array _ _ => true | _ => false) = true) (hi : (P.info? ty).map (·.size) = some cs.size) :
    (results fn tmps).run P w = .ok (.tuple #[.agg cs, tmps.getD u undef, tmps.getD v undef]) w := by
  have hp' : tmps[p]?.getD undef = .pointer (some ⟨g, 0, none⟩) := by simpa using hp
  simp [results, h, hp', asAddr, Result.andThen, run_loadVar_row w g t ty cs fr d hg hu hd hi]
end Zon
end Go.Proofs.YtedandbkdjmfhaaGreat
/-
  WALKS OVER zone'S AND THE DOCUMENT'S TESTS: bytesMayBe, Check, appendError, stateBehind.
-/
namespace Go.Proofs.YtedandbkdjmfhaaGreat
open Go.RowKit Mem
namespace Zon

/-- A zone in a block of its own. -/
def Box (w : World) (g : Nat) (z : Zn) (D : Option Addr) (c : Nat) : Prop := Cells w g 54 #[.int .i64 z.st, .int .i64 z.fc, .slice D z.data.length c]
section
variable {w w' : World} {g : Nat} {z : Zn} {D : Option Addr} {c : Nat}
theorem Box.lt (h : Box w g z D c) : g < w.heap.size := Cells.lt h
theorem Box.below (h : Box w g z D c) (hb : Below w.heap.size w w') : Box w' g z D c := Cells.below h hb
theorem Box.alloc (h : Box w g z D c) (o : Obj) : Box (w.alloc o) g z D c := h.below ((Below.refl _ w).alloc (Nat.le_refl _) o)
theorem Box.cells (h : Box w g z D c) : w.cell? ⟨g, 0, none⟩ = some (.int .i64 z.st) ∧ w.cell? ⟨g, 1, none⟩ = some (.int .i64 z.fc) ∧ w.cell? ⟨g, 2, none⟩ = some (.slice D z.data.length c) := ⟨Cells.cell h 0, Cells.cell h 1, Cells.cell h 2⟩
theorem Box.frozen (h : Box w g z D c) : w.frozen? ⟨g, 0, none⟩ = false ∧ w.frozen? ⟨g, 1, none⟩ = false ∧ w.frozen? ⟨g, 2, none⟩ = false := ⟨Cells.frozen h 0, Cells.frozen h 1, Cells.frozen h 2⟩
theorem Box.new (w : World) (z : Zn) (D : Option Addr) (c : Nat) : Box (w.alloc (.cells #[.int .i64 z.st, .int .i64 z.fc, .slice D z.data.length c] 54)) w.heap.size z D c := Cells.new w _ _
end

set_option maxRecDepth 100000 in
theorem bytesMayBe_any (st n most : Int) (w : World) :
    Calls Tryz.prog 85 #[.int .i64 st, .int .i64 n, .int .i64 most] w fun e w' => e = .returned (.bool (mayB st n most)) ∧ w' = w := by
  unfold mayB
  rcases e0 : (st == 0)
  · rcases e1 : (st == 1)
    · rcases e3 : (st == 3)
      · rcases e2 : (st == 2)
        · rcases e4 : (st == 4)
          all_goals
            go_enter Tryz.func85, Tryz.ntmps85
            go_wp2
            go_ret
            exact ⟨rfl, rfl⟩
        · go_enter Tryz.func85, Tryz.ntmps85
          go_wp2
          go_ret
          exact ⟨rfl, rfl⟩
      · rcases en : (n == 0)
        all_goals
          go_enter Tryz.func85, Tryz.ntmps85
          go_wp2
          go_ret
          exact ⟨rfl, rfl⟩
    · rcases en : (n == 0)
      all_goals
        go_enter Tryz.func85, Tryz.ntmps85
        go_wp2
        go_ret
        exact ⟨rfl, rfl⟩
  · go_enter Tryz.func85, Tryz.ntmps85
    go_wp2
    go_ret
    exact ⟨rfl, rfl⟩

set_option maxRecDepth 100000 in
theorem stateBehind_any (st n most : Int) (w : World) :
    Calls Tryz.prog 88 #[.int .i64 st, .int .i64 n, .int .i64 most] w fun e w' => e = .returned (.int .i64 (stB st n most)) ∧ w' = w := by
  unfold stB
  rcases e0 : (n == most)
  · rcases e2 : (st == 2)
    all_goals
      go_enter Tryz.func88, Tryz.ntmps88
      go_wp2
      go_ret
      exact ⟨rfl, rfl⟩
  · go_enter Tryz.func88, Tryz.ntmps88
    go_wp2
    go_ret
    exact ⟨rfl, rfl⟩

set_option maxRecDepth 100000 in
set_option maxHeartbeats 800000 in
theorem check_any (z : Zn) (D : Option Addr) (c : Nat) (most : Int) (w : World) :
    Calls Tryz.prog 66 #[zv z D c, .int .i64 most] w fun e w' => e = .returned (.int .i64 (errOf (okB z most))) ∧ Below w.heap.size w w' := by
  have HM := fun w => bytesMayBe_any z.st z.len most w
  have L1 := Lib.hid ((Below.refl w.heap.size w).alloc (Nat.le_refl _) (.cells #[.int .i64 z.st, .int .i64 z.fc, .slice D z.data.length c] 54))
  have B1 := Lib.hid (Box.new w z D c)
  unfold zv okB
  unfold Zn.len at *
  rcases e1 : decide (most < 1)
  · rcases e2 : decide (65536 < most)
    · rcases e3 : decide (z.fc < 0)
      · rcases e4 : mayB z.st z.data.length most
        all_goals
          rw [e4] at HM
          go_enter Tryz.func66, Tryz.ntmps66
          go_wp2_with fail
          generalize w.alloc (.cells #[.int .i64 z.st, .int .i64 z.fc, .slice D z.data.length c] 54) = w1 at *
          refine (HM w1).mono ?_
          rintro e w2 ⟨rfl, rfl⟩
          go_wp2_with fail
          go_ret
          exact ⟨rfl, L1.out⟩
      · go_enter Tryz.func66, Tryz.ntmps66
        go_wp2_with fail
        go_ret
        exact ⟨rfl, L1.out⟩
    · go_enter Tryz.func66, Tryz.ntmps66
      go_wp2_with fail
      go_ret
      exact ⟨rfl, L1.out⟩
  · go_enter Tryz.func66, Tryz.ntmps66
    go_wp2_with fail
    go_ret
    exact ⟨rfl, L1.out⟩

theorem ok_long {z : Zn} {most : Int} (h : most < z.len) : okB z most = false := by
  rcases ho : okB z most
  · rfl
  · have := (ok_parts ho).2.2.2.2; omega
theorem ok_rest {z : Zn} {most : Int} (h1 : decide (most < 1) = false) (h2 : decide (65536 < most) = false) (h3 : decide (z.fc < 0) = false) : okB z most = mayB z.st z.len most := by
  unfold okB
  rw [h1, h2, h3]; rfl

set_option maxRecDepth 100000 in
set_option maxHeartbeats 1600000 in
theorem appendError_any (z : Zn) (D : Option Addr) (c : Nat) (most : Int) (B : Option Addr) (n d : Nat) (hn : n ≤ 140737488351232) (w : World) :
    Calls Tryz.prog 87 #[zv z D c, .int .i64 most, .slice B n d] w fun e w' => e = .returned (.int .i64 (appErr z most n)) ∧ Below w.heap.size w w' := by
  have HC := fun w => Lib.hid (check_any z D c most w)
  have L1 := Lib.hid ((Below.refl w.heap.size w).alloc (Nat.le_refl _) (.cells #[.int .i64 z.st, .int .i64 z.fc, .slice D z.data.length c] 54))
  have B1 := Lib.hid (Box.new w z D c)
  unfold zv at *
  rcases app_cases z most n with ⟨ho, he⟩ | ⟨ho, h0, he⟩ | ⟨ho, h0, h4, he⟩ | ⟨ho, h0, h4, hf, he⟩ | ⟨ho, h0, h4, hf, he⟩
  · rw [ho] at HC
    rw [he]
    have e1 : errOf false = 1 := rfl
    rw [e1] at HC
    go_enter Tryz.func87, Tryz.ntmps87
    go_wp2_with fail
    generalize w.alloc (.cells #[.int .i64 z.st, .int .i64 z.fc, .slice D z.data.length c] 54) = w1 at *
    refine (HC w1).out.mono ?_
    rintro e w2 ⟨rfl, hb2⟩
    have L2 := Lib.hid (L1.out.trans (hb2.mono L1.out.size))
    clear hb2
    go_wp2_with fail
    go_ret
    exact ⟨rfl, L2.out⟩
  all_goals
    obtain ⟨p1, p2, -, -, p5⟩ := ok_parts ho
    rw [ho] at HC
    rw [he]
    have e1 : errOf true = 0 := rfl
    rw [e1] at HC
    clear he ho e1
    unfold Zn.len at *
  · subst h0
    go_enter Tryz.func87, Tryz.ntmps87
    go_wp2_with fail
    generalize w.alloc (.cells #[.int .i64 z.st, .int .i64 z.fc, .slice D z.data.length c] 54) = w1 at *
    refine (HC w1).out.mono ?_
    rintro e w2 ⟨rfl, hb2⟩
    have L2 := Lib.hid (L1.out.trans (hb2.mono L1.out.size))
    clear hb2
    go_wp2_with fail
    go_ret
    exact ⟨rfl, L2.out⟩
  · have hn0 : ((n : Int) == 0) = false := beq_eq_false_iff_ne.2 (by omega)
    have e4 : (z.st == 4) = true := by rw [h4]; rfl
    clear h4
    go_enter Tryz.func87, Tryz.ntmps87
    go_wp2_with fail
    generalize w.alloc (.cells #[.int .i64 z.st, .int .i64 z.fc, .slice D z.data.length c] 54) = w1 at *
    refine (HC w1).out.mono ?_
    rintro e w2 ⟨rfl, hb2⟩
    have L2 := Lib.hid (L1.out.trans (hb2.mono L1.out.size))
    obtain ⟨c0, c1, c2⟩ := (B1.out.below hb2).cells
    clear hb2
    go_wp2_with fail
    go_ret
    exact ⟨rfl, L2.out⟩
  · have hn0 : ((n : Int) == 0) = false := beq_eq_false_iff_ne.2 (by omega)
    have e4 : (z.st == 4) = false := beq_eq_false_iff_ne.2 h4
    have hsub : IntKind.i64.wrap (most - (z.data.length : Int)) = most - (z.data.length : Int) := by rw [IntKind.wrap_i64]; omega
    have hd : decide (most - (z.data.length : Int) < (n : Int)) = true := by simp; omega
    clear h4
    go_enter Tryz.func87, Tryz.ntmps87
    go_wp2_with fail
    generalize w.alloc (.cells #[.int .i64 z.st, .int .i64 z.fc, .slice D z.data.length c] 54) = w1 at *
    refine (HC w1).out.mono ?_
    rintro e w2 ⟨rfl, hb2⟩
    have L2 := Lib.hid (L1.out.trans (hb2.mono L1.out.size))
    obtain ⟨c0, c1, c2⟩ := (B1.out.below hb2).cells
    clear hb2
    go_wp2_with fail
    go_ret
    exact ⟨rfl, L2.out⟩
  · have hn0 : ((n : Int) == 0) = false := beq_eq_false_iff_ne.2 (by omega)
    have e4 : (z.st == 4) = false := beq_eq_false_iff_ne.2 h4
    have hsub : IntKind.i64.wrap (most - (z.data.length : Int)) = most - (z.data.length : Int) := by rw [IntKind.wrap_i64]; omega
    have hd : decide (most - (z.data.length : Int) < (n : Int)) = false := by simp; omega
    clear h4
    go_enter Tryz.func87, Tryz.ntmps87
    go_wp2_with fail
    generalize w.alloc (.cells #[.int .i64 z.st, .int .i64 z.fc, .slice D z.data.length c] 54) = w1 at *
    refine (HC w1).out.mono ?_
    rintro e w2 ⟨rfl, hb2⟩
    have L2 := Lib.hid (L1.out.trans (hb2.mono L1.out.size))
    obtain ⟨c0, c1, c2⟩ := (B1.out.below hb2).cells
    clear hb2
    go_wp2_with fail
    go_ret
    exact ⟨rfl, L2.out⟩
end Zon
end Go.Proofs.YtedandbkdjmfhaaGreat
