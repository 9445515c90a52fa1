/-
  ROWS IN MEMORY, for all layers: a slice that reads as a list, its parts, what is appended, and its text.
-/
import Derived.Test.YtedandbkdjmfhaaRows
import Derived.Laws.BitsAllLaws
import Derived.Laws.BytesArg
import Derived.Below
import Derived.Laws.OwnMore
import Derived.Laws.Rows
import Derived.Laws.Slices
import Derived.Deep.Draws
import Derived.WalkKit
import Derived.Maps.AppendAt
import Derived.Deep.DeepAppendWide
import Derived.OwnWalk
import Derived.Lib.Hide
import Derived.WideShapes
namespace Go.Proofs.Ytedandbkdjmfhaa
open Go.RowKit
namespace Mem

def u (b : BitVec 8) : Int := (b.toNat : Int)
theorem u_nonneg (a : BitVec 8) : 0 ≤ u a := Int.natCast_nonneg _
theorem u_lt (a : BitVec 8) : u a < 256 := by have := a.isLt; unfold u; omega
theorem u_inj {a b : BitVec 8} (h : u a = u b) : a = b := by
  apply BitVec.eq_of_toNat_eq; unfold u at h; omega
/-- A byte, and an int, as a cell. -/
def cb (x : BitVec 8) : Value := .int .u8 (u x)
def ci (n : Int) : Value := .int .i64 n
theorem cb_one (x : BitVec 8) : (cb x).oneCell' = true := rfl
theorem ci_one (x : Int) : (ci x).oneCell' = true := rfl

theorem add_none (b o k : Nat) : (⟨b, o, none⟩ : Addr).add k = ⟨b, o + k, none⟩ := by
  unfold Addr.add; split <;> simp_all

/-- The slice reads as l. -/
structure Row {α : Type} (f : α → Value) (w : World) (A : Option Addr) (n c : Nat) (l : List α) : Prop where
  len : l.length = n
  cap : n ≤ c
  big : n ≤ 140737488351232
  at_ : 0 < n → ∃ b o, A = some ⟨b, o, none⟩ ∧ b < w.heap.size ∧ ∀ i x, l[i]? = some x → w.cell? ⟨b, o + i, none⟩ = some (f x)

section
variable {α : Type} {f : α → Value} {w w' : World} {A : Option Addr} {n c : Nat} {l : List α}
theorem Row.nil (f : α → Value) (w : World) : Row f w none 0 0 [] := ⟨rfl, by omega, by omega, fun h => absurd h (by omega)⟩
theorem Row.empty (f : α → Value) (w : World) (A : Option Addr) (c : Nat) : Row f w A 0 c [] := ⟨rfl, by omega, by omega, fun h => absurd h (by omega)⟩
theorem Row.keep (h : Row f w A n c l) (hs : w.heap.size ≤ w'.heap.size) (hb : ∀ k, k < w.heap.size → w'.heap[k]? = w.heap[k]?) : Row f w' A n c l := by
  refine ⟨h.len, h.cap, h.big, fun h0 => ?_⟩
  obtain ⟨b, o, e, hx, hc⟩ := h.at_ h0
  refine ⟨b, o, e, by omega, fun i x hi => ?_⟩
  rw [World.cell?_of_block (w := w) (hb b hx)]
  exact hc i x hi
theorem Row.below (h : Row f w A n c l) (hb : Below w.heap.size w w') : Row f w' A n c l := h.keep hb.size hb.block
theorem Row.drew (h : Row f w A n c l) : Row f w.drew A n c l := h.keep (Nat.le_refl _) fun _ _ => rfl
theorem Row.drewN (h : Row f w A n c l) (q : Nat) : Row f (w.drewN q) A n c l := h.keep (Nat.le_refl _) fun _ _ => rfl
theorem Row.alloc (h : Row f w A n c l) (o : Obj) : Row f (w.alloc o) A n c l := h.below ((Below.refl _ w).alloc (Nat.le_refl _) o)

def tailA (A : Option Addr) (c k : Nat) : Option Addr := if c = k then A else A.map (·.add k)
theorem Row.tail (h : Row f w A n c l) {k : Nat} (hk : k ≤ n) : Row f w (tailA A c k) (n - k) (c - k) (l.drop k) := by
  have hl := h.len
  have hc := h.cap
  have hb := h.big
  refine ⟨by simp [hl], by omega, by omega, fun h0 => ?_⟩
  obtain ⟨b, o, e, hx, hcell⟩ := h.at_ (by omega)
  refine ⟨b, o + k, ?_, hx, fun i x hi => ?_⟩
  · unfold tailA
    rw [if_neg (by omega), e]
    simp [add_none]
  · rw [List.getElem?_drop] at hi
    have := hcell _ _ hi
    rwa [Nat.add_assoc]
theorem Row.head (h : Row f w A n c l) {k : Nat} (hk : k ≤ n) : Row f w A k c (l.take k) := by
  have hl := h.len
  have hc := h.cap
  have hb := h.big
  refine ⟨by simp [hl]; omega, by omega, by omega, fun h0 => ?_⟩
  obtain ⟨b, o, e, hx, hcell⟩ := h.at_ (by omega)
  refine ⟨b, o, e, hx, fun i x hi => ?_⟩
  rw [List.getElem?_take] at hi
  split at hi
  · exact hcell _ _ hi
  · cases hi
theorem Row.mid (h : Row f w A n c l) {k j : Nat} (hk : k ≤ j) (hj : j ≤ n) : Row f w (tailA A c k) (j - k) (c - k) ((l.drop k).take (j - k)) := by
  exact (h.tail (by omega)).head (by omega)
/-- One cell. -/
theorem Row.cell (h : Row f w A n c l) {i : Nat} {x : α} (hi : l[i]? = some x) : ∃ b o, A = some ⟨b, o, none⟩ ∧ w.cell? ⟨b, o + i, none⟩ = some (f x) := by
  have : i < l.length := (List.getElem?_eq_some_iff.1 hi).1
  obtain ⟨b, o, e, -, hc⟩ := h.at_ (by have := h.len; omega)
  exact ⟨b, o, e, hc i x hi⟩

theorem Row.get (h : Row f w A n c l) {i : Nat} (hi : i < n) : ∃ x, l[i]? = some x := ⟨_, List.getElem?_eq_getElem (by have := h.len; omega)⟩

/-- What the call owns from base on. -/
def Owns (f : α → Value) (e : TypeId) (base : Nat) (w : World) (s : Value) (n : Nat) (l : List α) : Prop := w.ownsRow base e 1 s n (l.map f)
theorem Owns.nil (f : α → Value) (e : TypeId) (base : Nat) (w : World) : Owns f e base w (.slice none 0 0) 0 [] := World.ownsRow_nil _ _ _ _
theorem Owns.len {e : TypeId} {base : Nat} {s : Value} (h : Owns f e base w s n l) : l.length = n := by simpa using h.1
theorem Owns.row {e : TypeId} {base : Nat} {s : Value} (h : Owns f e base w s n l) (hn : n ≤ 140737488351232) : ∃ A c, s = .slice A n c ∧ Row f w A n c l := by
  have hl := h.len
  rcases h.2 with ⟨rfl, rfl⟩ | ⟨g, cap, cur, rfl, _, hg, hnc, hcm, hs, ht⟩
  · have : l = [] := List.eq_nil_of_length_eq_zero hl
    subst this
    exact ⟨none, 0, rfl, Row.nil f w⟩
  · refine ⟨some ⟨g, 0, none⟩, cap, rfl, hl, hnc, hn, fun _ => ⟨g, 0, rfl, (Array.getElem?_eq_some_iff.1 hg).1, fun i x hx => ?_⟩⟩
    have := World.ownsRow.cells (g := g) (h : w.ownsRow base e 1 _ n (l.map f)) rfl i (f x) (by rw [List.getElem?_map, hx]; rfl)
    simpa [add_none] using this
theorem Owns.slice {e : TypeId} {base : Nat} {s : Value} (h : Owns f e base w s n l) : ∃ A c, s = .slice A n c := by
  rcases h.2 with ⟨rfl, rfl⟩ | ⟨g, cap, cur, rfl, _⟩
  · exact ⟨none, 0, rfl⟩
  · exact ⟨_, _, rfl⟩
theorem Owns.below {e : TypeId} {base : Nat} {s : Value} (h : Owns f e base w s n l) (hb : Below w.heap.size w w') : Owns f e base w' s n l := by
  refine ⟨h.1, ?_⟩
  rcases h.2 with hn | ⟨g, cap, cur, e', hbg, hg, r⟩
  · exact .inl hn
  · exact .inr ⟨g, cap, cur, e', hbg, (hb.block g (Array.getElem?_eq_some_iff.1 hg).1).trans hg, r⟩
theorem Owns.mono {e : TypeId} {base base' : Nat} {s : Value} (h : Owns f e base w s n l) (hb : base' ≤ base) : Owns f e base' w s n l := by
  refine ⟨h.1, ?_⟩
  rcases h.2 with hn | ⟨g, cap, cur, e', hbg, r⟩
  · exact .inl hn
  · exact .inr ⟨g, cap, cur, e', Nat.le_trans hb hbg, r⟩
theorem Owns.alloc {e : TypeId} {base : Nat} {s : Value} (h : Owns f e base w s n l) (o : Obj) : Owns f e base (w.alloc o) s n l := h.below ((Below.refl _ w).alloc (Nat.le_refl _) o)
theorem Owns.drew {e : TypeId} {base : Nat} {s : Value} (h : Owns f e base w s n l) : Owns f e base w.drew s n l := h.below (Below.refl _ w).drew
/-- A new row of one's own. -/
theorem Owns.made (f : α → Value) (e : TypeId) (w : World) (l : List α) (hn : l.length ≤ maxLen) {base : Nat} (hb : base ≤ w.heap.size) : Owns f e base (w.alloc (.cells (l.map f).toArray e)) (.slice (some ⟨w.heap.size, 0, none⟩) l.length l.length) l.length l :=
  ⟨by simp, .inr ⟨w.heap.size, l.length, (l.map f).toArray, rfl, hb, heap_alloc_new w _, Nat.le_refl _, hn, by simp, by rw [Nat.mul_one]; exact List.take_of_length_le (by simp)⟩⟩
end

/-- append(s, x...) onto a row of the call's own; x nil, empty or not. -/
theorem run_append {α : Type} {P : Program} {f : α → Value} (hf : ∀ x, (f x).oneCell' = true) {t e : TypeId} (ht : P.underlying t = some (.slice e)) {z : Value} {bytes : Nat} (hinfo : (P.info? e).map (fun i => (i.zero, i.size, i.bytes)) = some (some z, 1, bytes)) (hzs : z.cells.size = 1)
    (w : World) (base : Nat) (s : Value) (n : Nat) (l : List α) (hown : Owns f e base w s n l) (A : Option Addr) (m c : Nat) (l' : List α) (hx : Row f w A m c l')
    (hbig : n + m ≤ 281474976710656) (hby : ((n + m) + (n + m) / 4 + 192) * bytes ≤ 281474976710656) (hbase : base ≤ w.heap.size) :
    ∃ s' w', (Builtin.append_ #[t, t] t #[s, .slice A m c]).run P w = .ok s' w' ∧ Owns f e base w' s' (n + m) (l ++ l') ∧ Below base w w' ∧ (w' = w ∧ s' = s ∧ m = 0 ∨ 0 < n + m ∨ s' ≠ .slice none 0 0) := by
  obtain ⟨i, hi, hz0, hz1, hz2⟩ := info_parts hinfo
  have hone : ∀ q ∈ l'.map f, q.oneCell' = true := by
    intro q hq
    obtain ⟨x, _, rfl⟩ := List.mem_map.1 hq
    exact hf x
  rcases A with _ | ad
  · have hm : m = 0 := by
      rcases Nat.eq_zero_or_pos m with h0 | h0
      · exact h0
      · obtain ⟨b, o, e, _⟩ := hx.at_ h0
        cases e
    have hl : l' = [] := List.eq_nil_of_length_eq_zero (by rw [hx.len, hm])
    subst hm hl
    refine ⟨s, w, ?_, by simpa using hown, Below.refl _ _, .inl ⟨rfl, rfl, rfl⟩⟩
    rcases hown.2 with ⟨rfl, rfl⟩ | ⟨b, cap, cur, rfl, _, _, hnc, _⟩
    · simp [Builtin.append_, run_underlying ht, sizeOf, typeInfo, hi, Builtin.lenOf, Builtin.firstCells]
    · simp [Builtin.append_, run_underlying ht, sizeOf, typeInfo, hi, Builtin.lenOf, Builtin.firstCells, hnc, storeCells]
  · have hcells : ∀ j q, (l'.map f)[j]? = some q → w.cell? (ad.add j) = some q := by
      intro j q hq
      rw [List.getElem?_map] at hq
      obtain ⟨x, hxj, rfl⟩ := Option.map_eq_some_iff.1 hq
      have hlt : j < l'.length := (List.getElem?_eq_some_iff.1 hxj).1
      obtain ⟨b, o, e, _, hc⟩ := hx.at_ (by have := hx.len; omega)
      injection e with e
      subst e
      rw [add_none]
      exact hc j x hxj
    obtain ⟨s', w', hrun, h2, h3, h4⟩ := run_append_own_wide (P := P) w base t t e i _ 1 bytes ht hi hz0 hz1 hz2 hzs (by omega) s n _ hown ad m c (l'.map f) (by simp [hx.len]) hcells hone (by unfold maxLen; omega) hby hbase
    refine ⟨s', w', hrun, by unfold Owns; rw [List.map_append]; exact h2, (Below.refl base w).grown h3 hbase (fun k hk => (World.ownsRow.lt hown k hk).1), ?_⟩
    rcases Nat.eq_zero_or_pos (n + m) with h0 | h0
    · by_cases hn : s' = .slice none 0 0
      · obtain ⟨e1, e2⟩ := h4.1 hn
        subst e1
        refine .inl ⟨?_, hn, e2⟩
        subst hn e2
        have hnil : (Builtin.append_ #[t, t] t #[.slice none 0 0, .slice (some ad) 0 c]).run P w = .ok (.slice none 0 0) w := by
          simp [Builtin.append_, run_underlying ht, sizeOf, typeInfo, hi, Builtin.lenOf, Builtin.firstCells, loadCells, loadCellsFrom]
        rw [hnil] at hrun
        injection hrun with h1 h2
        exact h2.symm
      · exact .inr (.inr hn)
    · exact .inr (.inl h0)

theorem wpList_append_row {α : Type} {P : Program} {f : α → Value} (hf : ∀ x, (f x).oneCell' = true) {t e : TypeId} (ht : P.underlying t = some (.slice e)) {z : Value} {bytes : Nat} (hinfo : (P.info? e).map (fun i => (i.zero, i.size, i.bytes)) = some (some z, 1, bytes)) (hzs : z.cells.size = 1)
    {w : World} {ops : Array Oper} {rest : List Oper} {o : Oper} {a : Act} {Q : Exit → Act → World → Prop} (hgd : o.guard = none) (s x : Operand)
    (ho : o.op = .call { callee := .builtin .append, args := #[s, x], argTypes := #[t, t] }) (hty : o.type = t)
    (base : Nat) (sv : Value) (n : Nat) (l : List α) (hs : a.eval s = sv) (hown : Owns f e base w sv n l) (A : Option Addr) (m c : Nat) (l' : List α) (hx : a.eval x = .slice A m c) (h : Row f w A m c l')
    (hbig : n + m ≤ 281474976710656) (hby : ((n + m) + (n + m) / 4 + 192) * bytes ≤ 281474976710656) (hbase : base ≤ w.heap.size)
    (hk : ∀ A' c' w', Owns f e base w' (.slice A' (n + m) c') (n + m) (l ++ l') → Below base w w' → wpList P ops Q rest (a.put o.dst (.slice A' (n + m) c')) w') :
    wpList P ops Q (o :: rest) a w := by
  refine wpList_plain hgd fun K hK => ?_
  obtain ⟨s', w', hrun, h2, h3, -⟩ := run_append hf ht hinfo hzs w base sv n l hown A m c l' h hbig hby hbase
  obtain ⟨A', c', rfl⟩ := h2.slice
  unfold Oper.wp execOp
  simp only [ho, hty, resolve, invoke, builtin, Sem.run_bind, Sem.run_pure, Result.andThen_ok, List.map_toArray, List.map_cons, List.map_nil, hs, hx, hrun]
  exact hK _ _ (hk A' c' w' h2 h3)

/-! ### Bytes -/
theorem info_byte : (Try.prog.info? 5).map (fun i => (i.zero, i.size, i.bytes)) = some (some (.int .u8 0), 1, 1) := by kernel_rfl

theorem run_tail (A : Option Addr) (n c k : Nat) (hk : k ≤ n) (w : World) : (Instr.slice 27 (.slice A n c) (some (.int .i64 (k : Int))) none none).run Try.prog w = .ok (.slice (tailA A c k) (n - k) (c - k)) w := by
  obtain ⟨i, hi, hz0, hz1, hz2⟩ := info_parts info_byte
  have h1 : (k : Int) ≤ (n : Int) := by omega
  have h0 : (0 : Int) ≤ (k : Int) := by omega
  simp [Instr.slice, Instr.sliceBounds, run_sliceBound, h0, h1, run_underlying Try.underlying27, sizeOf, typeInfo, hi, hz1, tailA]
theorem run_head (A : Option Addr) (n c k : Nat) (h : k ≤ c) (w : World) : (Instr.slice 27 (.slice A n c) none (some (.int .i64 (k : Int))) none).run Try.prog w = .ok (.slice A k c) w := by
  obtain ⟨i, hi, hz0, hz1, hz2⟩ := info_parts info_byte
  have e : (if c = 0 then A else A.map (·.add 0)) = A := by
    split
    · rfl
    · cases A with
      | none => rfl
      | some x => simp [Addr.add]
  have h1 : (k : Int) ≤ (c : Int) := by omega
  have h0 : (0 : Int) ≤ (k : Int) := by omega
  simp [Instr.slice, Instr.sliceBounds, run_sliceBound, h0, h1, run_underlying Try.underlying27, sizeOf, typeInfo, hi, e]
theorem run_mid (A : Option Addr) (n c k j : Nat) (hk : k ≤ j) (hj : j ≤ c) (w : World) : (Instr.slice 27 (.slice A n c) (some (.int .i64 (k : Int))) (some (.int .i64 (j : Int))) none).run Try.prog w = .ok (.slice (tailA A c k) (j - k) (c - k)) w := by
  obtain ⟨i, hi, hz0, hz1, hz2⟩ := info_parts info_byte
  have h1 : (k : Int) ≤ (j : Int) := by omega
  have h0 : (0 : Int) ≤ (k : Int) := by omega
  have h2 : (j : Int) ≤ (c : Int) := by omega
  have h3 : (0 : Int) ≤ (j : Int) := by omega
  simp [Instr.slice, Instr.sliceBounds, run_sliceBound, h0, h1, h2, h3, run_underlying Try.underlying27, sizeOf, typeInfo, hi, hz1, tailA]

/-- The bytes as a text. -/
def str (l : List (BitVec 8)) : ByteArray := strOfNums (l.map u)
theorem str_inj {l l' : List (BitVec 8)} (h : str l = str l') : l = l' := by
  unfold str strOfNums at h
  simp only [List.map_map, ByteArray.mk.injEq] at h
  have h := congrArg Array.toList h
  refine List.map_inj_right ?_ |>.1 h
  intro x y hxy
  have h1 := x.isLt
  have h2 := y.isLt
  apply BitVec.eq_of_toNat_eq
  have := congrArg UInt8.toNat hxy
  simp [u] at this
  omega
theorem str_eq (l l' : List (BitVec 8)) : (str l = str l') = (l = l') := propext ⟨str_inj, fun h => by rw [h]⟩
theorem str_beq (l l' : List (BitVec 8)) : ((str l).toList == (str l').toList) = decide (l = l') := by
  by_cases h : l = l'
  · subst h; simp
  · have : (str l).toList ≠ (str l').toList := fun e => by
      rw [ByteArray.toList_eq, ByteArray.toList_eq] at e
      exact h (str_inj (Go.WideShapes.bytes_inj e))
    simp [h, this]
theorem run_str {w : World} {A : Option Addr} {n c : Nat} {l : List (BitVec 8)} (h : Row cb w A n c l) : (convert 27 9 (.slice A n c)).run Try.prog w = .ok (.string (str l)) w := by
  rcases Nat.eq_zero_or_pos n with h0 | h0
  · have hl : l = [] := List.eq_nil_of_length_eq_zero (by rw [h.len, h0])
    subst hl h0
    rw [run_convert_bytes_string w _ _ _ _ _ c Try.underlying27 Try.underlying5 Try.underlying9]
    cases A with
    | none => simp [Conv.bytesToString, str, strOfNums]; rfl
    | some a =>
      rw [run_bytesToString w a 0 c [] (by simp [loadCells, loadCellsFrom])]
      rfl
  · obtain ⟨b, o, rfl, -, hc⟩ := h.at_ h0
    exact run_convert_bytes_arg w _ _ Try.underlying27 Try.underlying5 b o n c (l.map u) (by simp [h.len]) (fun i hi => by
      have hi' : i < l.length := by rw [h.len]; exact hi
      rw [hc i _ (List.getElem?_eq_getElem hi')]
      simp [cb, List.getD, List.getElem?_map, List.getElem?_eq_getElem hi']) _ Try.underlying9

theorem ret_int {k : IntKind} {a b : Int} (h : a = b) : Ending.returned (.int k a) = .returned (.int k b) := by rw [h]
theorem ret_bool {a b : Bool} (h : a = b) : Ending.returned (.bool a) = .returned (.bool b) := by rw [h]
end Mem
end Go.Proofs.Ytedandbkdjmfhaa
