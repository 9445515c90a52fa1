/-
  SEVERAL TEXTS IN ONE FILE: Mem, LeaMath, LeaFactA, SpaMath.
-/
import Derived.Test.YtmflngclncidjaaGreatRows
import Derived.Laws.BitsAllLaws
import Derived.Laws.BytesArg
import Derived.Below
import Derived.Laws.OwnMore
import Derived.Laws.Rows
import Derived.Laws.Slices
import Derived.Deep.Draws
import Derived.WalkKit
import Derived.Maps.AppendAt
import Derived.OwnWalk
import Derived.Lib.Hide
import Derived.WideShapes
/-
  ROWS IN MEMORY, for all layers: a slice that reads as a list, its parts, what is appended, and its text.
-/
namespace Go.Proofs.YtmflngclncidjaaGreat
open Go.RowKit
namespace Mem

def u (b : BitVec 8) : Int := (b.toNat : Int)
theorem u_nonneg (a : BitVec 8) : 0 ≤ u a := Int.natCast_nonneg _
theorem u_lt (a : BitVec 8) : u a < 256 := by have := a.isLt; unfold u; omega
theorem u_inj {a b : BitVec 8} (h : u a = u b) : a = b := by
  apply BitVec.eq_of_toNat_eq; unfold u at h; omega
/-- A byte, and an int, as a cell. -/
def cb (x : BitVec 8) : Value := .int .u8 (u x)
def ci (n : Int) : Value := .int .i64 n
theorem cb_one (x : BitVec 8) : (cb x).oneCell' = true := rfl
theorem ci_one (x : Int) : (ci x).oneCell' = true := rfl

theorem add_none (b o k : Nat) : (⟨b, o, none⟩ : Addr).add k = ⟨b, o + k, none⟩ := by
  unfold Addr.add; split <;> simp_all

/-- The slice reads as l. -/
structure Row {α : Type} (f : α → Value) (w : World) (A : Option Addr) (n c : Nat) (l : List α) : Prop where
  len : l.length = n
  cap : n ≤ c
  big : n ≤ 140737488351232
  at_ : 0 < n → ∃ b o, A = some ⟨b, o, none⟩ ∧ b < w.heap.size ∧ ∀ i x, l[i]? = some x → w.cell? ⟨b, o + i, none⟩ = some (f x)

section
variable {α : Type} {f : α → Value} {w w' : World} {A : Option Addr} {n c : Nat} {l : List α}
theorem Row.nil (f : α → Value) (w : World) : Row f w none 0 0 [] := ⟨rfl, by omega, by omega, fun h => absurd h (by omega)⟩
theorem Row.empty (f : α → Value) (w : World) (A : Option Addr) (c : Nat) : Row f w A 0 c [] := ⟨rfl, by omega, by omega, fun h => absurd h (by omega)⟩
theorem Row.keep (h : Row f w A n c l) (hs : w.heap.size ≤ w'.heap.size) (hb : ∀ k, k < w.heap.size → w'.heap[k]? = w.heap[k]?) : Row f w' A n c l := by
  refine ⟨h.len, h.cap, h.big, fun h0 => ?_⟩
  obtain ⟨b, o, e, hx, hc⟩ := h.at_ h0
  refine ⟨b, o, e, by omega, fun i x hi => ?_⟩
  rw [World.cell?_of_block (w := w) (hb b hx)]
  exact hc i x hi
theorem Row.below (h : Row f w A n c l) (hb : Below w.heap.size w w') : Row f w' A n c l := h.keep hb.size hb.block
theorem Row.drew (h : Row f w A n c l) : Row f w.drew A n c l := h.keep (Nat.le_refl _) fun _ _ => rfl
theorem Row.drewN (h : Row f w A n c l) (q : Nat) : Row f (w.drewN q) A n c l := h.keep (Nat.le_refl _) fun _ _ => rfl
theorem Row.alloc (h : Row f w A n c l) (o : Obj) : Row f (w.alloc o) A n c l := h.below ((Below.refl _ w).alloc (Nat.le_refl _) o)

def tailA (A : Option Addr) (c k : Nat) : Option Addr := if c = k then A else A.map (·.add k)
theorem Row.tail (h : Row f w A n c l) {k : Nat} (hk : k ≤ n) : Row f w (tailA A c k) (n - k) (c - k) (l.drop k) := by
  have hl := h.len
  have hc := h.cap
  have hb := h.big
  refine ⟨by simp [hl], by omega, by omega, fun h0 => ?_⟩
  obtain ⟨b, o, e, hx, hcell⟩ := h.at_ (by omega)
  refine ⟨b, o + k, ?_, hx, fun i x hi => ?_⟩
  · unfold tailA
    rw [if_neg (by omega), e]
    simp [add_none]
  · rw [List.getElem?_drop] at hi
    have := hcell _ _ hi
    rwa [Nat.add_assoc]
theorem Row.head (h : Row f w A n c l) {k : Nat} (hk : k ≤ n) : Row f w A k c (l.take k) := by
  have hl := h.len
  have hc := h.cap
  have hb := h.big
  refine ⟨by simp [hl]; omega, by omega, by omega, fun h0 => ?_⟩
  obtain ⟨b, o, e, hx, hcell⟩ := h.at_ (by omega)
  refine ⟨b, o, e, hx, fun i x hi => ?_⟩
  rw [List.getElem?_take] at hi
  split at hi
  · exact hcell _ _ hi
  · cases hi
theorem Row.mid (h : Row f w A n c l) {k j : Nat} (hk : k ≤ j) (hj : j ≤ n) : Row f w (tailA A c k) (j - k) (c - k) ((l.drop k).take (j - k)) := by
  exact (h.tail (by omega)).head (by omega)
/-- One cell. -/
theorem Row.cell (h : Row f w A n c l) {i : Nat} {x : α} (hi : l[i]? = some x) : ∃ b o, A = some ⟨b, o, none⟩ ∧ w.cell? ⟨b, o + i, none⟩ = some (f x) := by
  have : i < l.length := (List.getElem?_eq_some_iff.1 hi).1
  obtain ⟨b, o, e, -, hc⟩ := h.at_ (by have := h.len; omega)
  exact ⟨b, o, e, hc i x hi⟩

theorem Row.get (h : Row f w A n c l) {i : Nat} (hi : i < n) : ∃ x, l[i]? = some x := ⟨_, List.getElem?_eq_getElem (by have := h.len; omega)⟩

/-- What the call owns from base on. -/
def Owns (f : α → Value) (e : TypeId) (base : Nat) (w : World) (s : Value) (n : Nat) (l : List α) : Prop := w.ownsRow base e 1 s n (l.map f)
theorem Owns.nil (f : α → Value) (e : TypeId) (base : Nat) (w : World) : Owns f e base w (.slice none 0 0) 0 [] := World.ownsRow_nil _ _ _ _
theorem Owns.len {e : TypeId} {base : Nat} {s : Value} (h : Owns f e base w s n l) : l.length = n := by simpa using h.1
theorem Owns.row {e : TypeId} {base : Nat} {s : Value} (h : Owns f e base w s n l) (hn : n ≤ 140737488351232) : ∃ A c, s = .slice A n c ∧ Row f w A n c l := by
  have hl := h.len
  rcases h.2 with ⟨rfl, rfl⟩ | ⟨g, cap, cur, rfl, _, hg, hnc, hcm, hs, ht⟩
  · have : l = [] := List.eq_nil_of_length_eq_zero hl
    subst this
    exact ⟨none, 0, rfl, Row.nil f w⟩
  · refine ⟨some ⟨g, 0, none⟩, cap, rfl, hl, hnc, hn, fun _ => ⟨g, 0, rfl, (Array.getElem?_eq_some_iff.1 hg).1, fun i x hx => ?_⟩⟩
    have := World.ownsRow.cells (g := g) (h : w.ownsRow base e 1 _ n (l.map f)) rfl i (f x) (by rw [List.getElem?_map, hx]; rfl)
    simpa [add_none] using this
theorem Owns.slice {e : TypeId} {base : Nat} {s : Value} (h : Owns f e base w s n l) : ∃ A c, s = .slice A n c := by
  rcases h.2 with ⟨rfl, rfl⟩ | ⟨g, cap, cur, rfl, _⟩
  · exact ⟨none, 0, rfl⟩
  · exact ⟨_, _, rfl⟩
theorem Owns.below {e : TypeId} {base : Nat} {s : Value} (h : Owns f e base w s n l) (hb : Below w.heap.size w w') : Owns f e base w' s n l := by
  refine ⟨h.1, ?_⟩
  rcases h.2 with hn | ⟨g, cap, cur, e', hbg, hg, r⟩
  · exact .inl hn
  · exact .inr ⟨g, cap, cur, e', hbg, (hb.block g (Array.getElem?_eq_some_iff.1 hg).1).trans hg, r⟩
theorem Owns.mono {e : TypeId} {base base' : Nat} {s : Value} (h : Owns f e base w s n l) (hb : base' ≤ base) : Owns f e base' w s n l := by
  refine ⟨h.1, ?_⟩
  rcases h.2 with hn | ⟨g, cap, cur, e', hbg, r⟩
  · exact .inl hn
  · exact .inr ⟨g, cap, cur, e', Nat.le_trans hb hbg, r⟩
theorem Owns.alloc {e : TypeId} {base : Nat} {s : Value} (h : Owns f e base w s n l) (o : Obj) : Owns f e base (w.alloc o) s n l := h.below ((Below.refl _ w).alloc (Nat.le_refl _) o)
theorem Owns.drew {e : TypeId} {base : Nat} {s : Value} (h : Owns f e base w s n l) : Owns f e base w.drew s n l := h.below (Below.refl _ w).drew
/-- A new row of one's own. -/
theorem Owns.made (f : α → Value) (e : TypeId) (w : World) (l : List α) (hn : l.length ≤ maxLen) {base : Nat} (hb : base ≤ w.heap.size) : Owns f e base (w.alloc (.cells (l.map f).toArray e)) (.slice (some ⟨w.heap.size, 0, none⟩) l.length l.length) l.length l :=
  ⟨by simp, .inr ⟨w.heap.size, l.length, (l.map f).toArray, rfl, hb, heap_alloc_new w _, Nat.le_refl _, hn, by simp, by rw [Nat.mul_one]; exact List.take_of_length_le (by simp)⟩⟩
end

/-- append(s, x...) onto a row of the call's own; x nil, empty or not. -/
theorem run_append {α : Type} {P : Program} {f : α → Value} (hf : ∀ x, (f x).oneCell' = true) {t e : TypeId} (ht : P.underlying t = some (.slice e)) {z : Value} {bytes : Nat} (hinfo : (P.info? e).map (fun i => (i.zero, i.size, i.bytes)) = some (some z, 1, bytes)) (hzs : z.cells.size = 1)
    (w : World) (base : Nat) (s : Value) (n : Nat) (l : List α) (hown : Owns f e base w s n l) (A : Option Addr) (m c : Nat) (l' : List α) (hx : Row f w A m c l')
    (hbig : n + m ≤ 140737488351232) (hby : (n + m) * bytes ≤ 140737488355328) (hbase : base ≤ w.heap.size) :
    ∃ s' w', (Builtin.append_ #[t, t] t #[s, .slice A m c]).run P w = .ok s' w' ∧ Owns f e base w' s' (n + m) (l ++ l') ∧ Below base w w' ∧ (w' = w ∧ s' = s ∧ m = 0 ∨ 0 < n + m ∨ s' ≠ .slice none 0 0) := by
  obtain ⟨i, hi, hz0, hz1, hz2⟩ := info_parts hinfo
  have hone : ∀ q ∈ l'.map f, q.oneCell' = true := by
    intro q hq
    obtain ⟨x, _, rfl⟩ := List.mem_map.1 hq
    exact hf x
  rcases A with _ | ad
  · have hm : m = 0 := by
      rcases Nat.eq_zero_or_pos m with h0 | h0
      · exact h0
      · obtain ⟨b, o, e, _⟩ := hx.at_ h0
        cases e
    have hl : l' = [] := List.eq_nil_of_length_eq_zero (by rw [hx.len, hm])
    subst hm hl
    refine ⟨s, w, ?_, by simpa using hown, Below.refl _ _, .inl ⟨rfl, rfl, rfl⟩⟩
    rcases hown.2 with ⟨rfl, rfl⟩ | ⟨b, cap, cur, rfl, _, _, hnc, _⟩
    · simp [Builtin.append_, run_underlying ht, sizeOf, typeInfo, hi, Builtin.lenOf, Builtin.firstCells]
    · simp [Builtin.append_, run_underlying ht, sizeOf, typeInfo, hi, Builtin.lenOf, Builtin.firstCells, hnc, storeCells]
  · have hcells : ∀ j q, (l'.map f)[j]? = some q → w.cell? (ad.add j) = some q := by
      intro j q hq
      rw [List.getElem?_map] at hq
      obtain ⟨x, hxj, rfl⟩ := Option.map_eq_some_iff.1 hq
      have hlt : j < l'.length := (List.getElem?_eq_some_iff.1 hxj).1
      obtain ⟨b, o, e, _, hc⟩ := hx.at_ (by have := hx.len; omega)
      injection e with e
      subst e
      rw [add_none]
      exact hc j x hxj
    obtain ⟨s', w', hrun, h2, h3, h4, h5⟩ := run_append_own_at (P := P) w base t t e i _ 1 bytes ht hi hz0 hz1 hz2 hzs (by omega) s n _ hown ad m c (l'.map f) (by simp [hx.len]) hcells hone (by unfold maxLen; omega) hby hbase
    refine ⟨s', w', hrun, by unfold Owns; rw [List.map_append]; exact h2, (Below.refl base w).grown h3 hbase (fun k hk => (World.ownsRow.lt hown k hk).1), ?_⟩
    rcases Nat.eq_zero_or_pos (n + m) with h0 | h0
    · by_cases hn : s' = .slice none 0 0
      · obtain ⟨e1, e2⟩ := h4.1 hn
        subst e1
        refine .inl ⟨?_, hn, e2⟩
        subst hn e2
        have hnil : (Builtin.append_ #[t, t] t #[.slice none 0 0, .slice (some ad) 0 c]).run P w = .ok (.slice none 0 0) w := by
          simp [Builtin.append_, run_underlying ht, sizeOf, typeInfo, hi, Builtin.lenOf, Builtin.firstCells, loadCells, loadCellsFrom]
        rw [hnil] at hrun
        injection hrun with h1 h2
        exact h2.symm
      · exact .inr (.inr hn)
    · exact .inr (.inl h0)

theorem wpList_append_row {α : Type} {P : Program} {f : α → Value} (hf : ∀ x, (f x).oneCell' = true) {t e : TypeId} (ht : P.underlying t = some (.slice e)) {z : Value} {bytes : Nat} (hinfo : (P.info? e).map (fun i => (i.zero, i.size, i.bytes)) = some (some z, 1, bytes)) (hzs : z.cells.size = 1)
    {w : World} {ops : Array Oper} {rest : List Oper} {o : Oper} {a : Act} {Q : Exit → Act → World → Prop} (hgd : o.guard = none) (s x : Operand)
    (ho : o.op = .call { callee := .builtin .append, args := #[s, x], argTypes := #[t, t] }) (hty : o.type = t)
    (base : Nat) (sv : Value) (n : Nat) (l : List α) (hs : a.eval s = sv) (hown : Owns f e base w sv n l) (A : Option Addr) (m c : Nat) (l' : List α) (hx : a.eval x = .slice A m c) (h : Row f w A m c l')
    (hbig : n + m ≤ 140737488351232) (hby : (n + m) * bytes ≤ 140737488355328) (hbase : base ≤ w.heap.size)
    (hk : ∀ A' c' w', Owns f e base w' (.slice A' (n + m) c') (n + m) (l ++ l') → Below base w w' → wpList P ops Q rest (a.put o.dst (.slice A' (n + m) c')) w') :
    wpList P ops Q (o :: rest) a w := by
  refine wpList_plain hgd fun K hK => ?_
  obtain ⟨s', w', hrun, h2, h3, -⟩ := run_append hf ht hinfo hzs w base sv n l hown A m c l' h hbig hby hbase
  obtain ⟨A', c', rfl⟩ := h2.slice
  unfold Oper.wp execOp
  simp only [ho, hty, resolve, invoke, builtin, Sem.run_bind, Sem.run_pure, Result.andThen_ok, List.map_toArray, List.map_cons, List.map_nil, hs, hx, hrun]
  exact hK _ _ (hk A' c' w' h2 h3)

/-! ### Bytes -/
theorem info_byte : (Tryz.prog.info? 5).map (fun i => (i.zero, i.size, i.bytes)) = some (some (.int .u8 0), 1, 1) := by kernel_rfl

theorem run_tail (A : Option Addr) (n c k : Nat) (hk : k ≤ n) (w : World) : (Instr.slice 53 (.slice A n c) (some (.int .i64 (k : Int))) none none).run Tryz.prog w = .ok (.slice (tailA A c k) (n - k) (c - k)) w := by
  obtain ⟨i, hi, hz0, hz1, hz2⟩ := info_parts info_byte
  have h1 : (k : Int) ≤ (n : Int) := by omega
  have h0 : (0 : Int) ≤ (k : Int) := by omega
  simp [Instr.slice, Instr.sliceBounds, run_sliceBound, h0, h1, run_underlying Tryz.underlying53, sizeOf, typeInfo, hi, hz1, tailA]
theorem run_head (A : Option Addr) (n c k : Nat) (h : k ≤ c) (w : World) : (Instr.slice 53 (.slice A n c) none (some (.int .i64 (k : Int))) none).run Tryz.prog w = .ok (.slice A k c) w := by
  obtain ⟨i, hi, hz0, hz1, hz2⟩ := info_parts info_byte
  have e : (if c = 0 then A else A.map (·.add 0)) = A := by
    split
    · rfl
    · cases A with
      | none => rfl
      | some x => simp [Addr.add]
  have h1 : (k : Int) ≤ (c : Int) := by omega
  have h0 : (0 : Int) ≤ (k : Int) := by omega
  simp [Instr.slice, Instr.sliceBounds, run_sliceBound, h0, h1, run_underlying Tryz.underlying53, sizeOf, typeInfo, hi, e]
theorem run_mid (A : Option Addr) (n c k j : Nat) (hk : k ≤ j) (hj : j ≤ c) (w : World) : (Instr.slice 53 (.slice A n c) (some (.int .i64 (k : Int))) (some (.int .i64 (j : Int))) none).run Tryz.prog w = .ok (.slice (tailA A c k) (j - k) (c - k)) w := by
  obtain ⟨i, hi, hz0, hz1, hz2⟩ := info_parts info_byte
  have h1 : (k : Int) ≤ (j : Int) := by omega
  have h0 : (0 : Int) ≤ (k : Int) := by omega
  have h2 : (j : Int) ≤ (c : Int) := by omega
  have h3 : (0 : Int) ≤ (j : Int) := by omega
  simp [Instr.slice, Instr.sliceBounds, run_sliceBound, h0, h1, h2, h3, run_underlying Tryz.underlying53, sizeOf, typeInfo, hi, hz1, tailA]

/-- The bytes as a text. -/
def str (l : List (BitVec 8)) : ByteArray := strOfNums (l.map u)
theorem str_inj {l l' : List (BitVec 8)} (h : str l = str l') : l = l' := by
  unfold str strOfNums at h
  simp only [List.map_map, ByteArray.mk.injEq] at h
  have h := congrArg Array.toList h
  refine List.map_inj_right ?_ |>.1 h
  intro x y hxy
  have h1 := x.isLt
  have h2 := y.isLt
  apply BitVec.eq_of_toNat_eq
  have := congrArg UInt8.toNat hxy
  simp [u] at this
  omega
theorem str_eq (l l' : List (BitVec 8)) : (str l = str l') = (l = l') := propext ⟨str_inj, fun h => by rw [h]⟩
theorem str_beq (l l' : List (BitVec 8)) : ((str l).toList == (str l').toList) = decide (l = l') := by
  by_cases h : l = l'
  · subst h; simp
  · have : (str l).toList ≠ (str l').toList := fun e => by
      rw [ByteArray.toList_eq, ByteArray.toList_eq] at e
      exact h (str_inj (Go.WideShapes.bytes_inj e))
    simp [h, this]
theorem run_str {w : World} {A : Option Addr} {n c : Nat} {l : List (BitVec 8)} (h : Row cb w A n c l) : (convert 53 9 (.slice A n c)).run Tryz.prog w = .ok (.string (str l)) w := by
  rcases Nat.eq_zero_or_pos n with h0 | h0
  · have hl : l = [] := List.eq_nil_of_length_eq_zero (by rw [h.len, h0])
    subst hl h0
    rw [run_convert_bytes_string w _ _ _ _ _ c Tryz.underlying53 Tryz.underlying5 Tryz.underlying9]
    cases A with
    | none => simp [Conv.bytesToString, str, strOfNums]; rfl
    | some a =>
      rw [run_bytesToString w a 0 c [] (by simp [loadCells, loadCellsFrom])]
      rfl
  · obtain ⟨b, o, rfl, -, hc⟩ := h.at_ h0
    exact run_convert_bytes_arg w _ _ Tryz.underlying53 Tryz.underlying5 b o n c (l.map u) (by simp [h.len]) (fun i hi => by
      have hi' : i < l.length := by rw [h.len]; exact hi
      rw [hc i _ (List.getElem?_eq_getElem hi')]
      simp [cb, List.getD, List.getElem?_map, List.getElem?_eq_getElem hi']) _ Tryz.underlying9

theorem ret_int {k : IntKind} {a b : Int} (h : a = b) : Ending.returned (.int k a) = .returned (.int k b) := by rw [h]
theorem ret_bool {a b : Bool} (h : a = b) : Ending.returned (.bool a) = .returned (.bool b) := by rw [h]
end Mem
end Go.Proofs.YtmflngclncidjaaGreat
/-
  lease IN PLAIN: leases, tables, which may be, and what each call comes to.
-/
namespace Go.Proofs.YtmflngclncidjaaGreat
open Go.RowKit Mem
namespace Lea
structure Lv where
  key : Int
  host : Int
  epoch : Int
  til : Int
structure Tv where
  last : Int
  now : Int
  l : List Lv
def zL : Lv := ⟨0, 0, 0, 0⟩
def zT : Tv := ⟨0, 0, []⟩
def errOf (b : Bool) : Int := bif b then 0 else 1
def hostB (h : Int) : Bool := decide (0 ≤ h) && decide (h < 8)
def ttlB (n : Int) : Bool := decide (1 ≤ n) && decide (n ≤ 1099511627776)
def mayB (last now : Int) (x : Lv) : Bool := decide (0 ≤ x.key) && (hostB x.host && (decide (1 ≤ x.epoch) && (decide (x.epoch ≤ last) && decide (now < x.til))))
def Rises (l : List Lv) : Prop := l.Pairwise (fun a b => a.key < b.key)
def Differ (l : List Lv) : Prop := (l.map Lv.epoch).Nodup
instance (l : List Lv) : Decidable (Rises l) := inferInstanceAs (Decidable (List.Pairwise _ _))
instance (l : List Lv) : Decidable (Differ l) := inferInstanceAs (Decidable (List.Nodup _))
def risesB (l : List Lv) : Bool := decide (Rises l)
def differB (l : List Lv) : Bool := decide (Differ l)
def okT (t : Tv) : Bool := !decide (t.last < 0) && (!decide (t.now < 0) && (risesB t.l && (differB t.l && t.l.all (mayB t.last t.now))))
theorem okT_iff {t : Tv} : okT t = true ↔ 0 ≤ t.last ∧ 0 ≤ t.now ∧ Rises t.l ∧ Differ t.l ∧ ∀ x ∈ t.l, mayB t.last t.now x = true := by
  unfold okT risesB differB
  simp only [Bool.and_eq_true, Bool.not_eq_true', decide_eq_false_iff_not, Int.not_lt, decide_eq_true_eq, List.all_eq_true]
theorem mayB_iff {last now : Int} {x : Lv} : mayB last now x = true ↔ 0 ≤ x.key ∧ (0 ≤ x.host ∧ x.host < 8) ∧ 1 ≤ x.epoch ∧ x.epoch ≤ last ∧ now < x.til := by
  unfold mayB hostB
  simp only [Bool.and_eq_true, decide_eq_true_eq]
theorem okT_rises {t : Tv} (h : okT t = true) : Rises t.l := (okT_iff.1 h).2.2.1
theorem okT_may {t : Tv} (h : okT t = true) {x : Lv} (hx : x ∈ t.l) : mayB t.last t.now x = true := (okT_iff.1 h).2.2.2.2 x hx

/-! ### Where a key stands -/
def heldB (l : List Lv) (key : Int) : Bool := l.any (fun x => x.key == key)
def findL (l : List Lv) (key : Int) : Option Lv := l.find? (fun x => x.key == key)
structure Place (l : List Lv) (key : Int) (k : Nat) : Prop where
  le : k ≤ l.length
  lo : ∀ t x, t < k → l[t]? = some x → x.key < key
  hi : ∀ t x, k ≤ t → l[t]? = some x → key ≤ x.key
theorem rises_lt {l : List Lv} (h : Rises l) {i j : Nat} {x y : Lv} (hij : i < j) (hx : l[i]? = some x) (hy : l[j]? = some y) : x.key < y.key := by
  obtain ⟨hi, rfl⟩ := List.getElem?_eq_some_iff.1 hx
  obtain ⟨hj, rfl⟩ := List.getElem?_eq_some_iff.1 hy
  exact List.pairwise_iff_getElem.1 h i j hi hj hij
theorem rises_inj {l : List Lv} (h : Rises l) {x y : Lv} (hx : x ∈ l) (hy : y ∈ l) (e : x.key = y.key) : x = y := by
  obtain ⟨i, hi⟩ := List.mem_iff_getElem?.1 hx
  obtain ⟨j, hj⟩ := List.mem_iff_getElem?.1 hy
  rcases Nat.lt_trichotomy i j with hij | hij | hij
  · have := rises_lt h hij hi hj; omega
  · subst hij; rw [hi] at hj; injection hj
  · have := rises_lt h hij hj hi; omega
theorem held_iff {l : List Lv} {key : Int} : heldB l key = true ↔ ∃ x ∈ l, x.key = key := by
  unfold heldB; simp only [List.any_eq_true, beq_iff_eq]
theorem held_false {l : List Lv} {key : Int} : heldB l key = false ↔ ∀ x ∈ l, x.key ≠ key := by
  unfold heldB; simp only [List.any_eq_false, beq_iff_eq, ne_eq]
theorem find_held {l : List Lv} {key : Int} : heldB l key = (findL l key).isSome := by
  unfold heldB findL
  rw [Bool.eq_iff_iff, List.any_eq_true, List.find?_isSome]
theorem find_some {l : List Lv} {key : Int} {x : Lv} (h : findL l key = some x) : x ∈ l ∧ x.key = key :=
  ⟨List.mem_of_find?_eq_some h, by simpa using List.find?_some h⟩
theorem find_none {l : List Lv} {key : Int} (h : heldB l key = false) : findL l key = none := by
  rw [find_held] at h; exact Option.not_isSome_iff_eq_none.1 (by simp [h])
theorem find_of {l : List Lv} (h : Rises l) {x : Lv} (hx : x ∈ l) : findL l x.key = some x := by
  rcases e : findL l x.key with _ | y
  · unfold findL at e
    rw [List.find?_eq_none] at e
    exact absurd (e x hx) (by simp)
  · have := find_some e
    rw [rises_inj h this.1 hx this.2]
theorem place_held {l : List Lv} {key : Int} {k : Nat} (hr : Rises l) (h : Place l key k) (hh : heldB l key = true) : ∃ x, l[k]? = some x ∧ x.key = key ∧ findL l key = some x := by
  obtain ⟨x, hx, rfl⟩ := held_iff.1 hh
  obtain ⟨i, hi⟩ := List.mem_iff_getElem?.1 hx
  have hki : k ≤ i := by
    rcases Nat.lt_or_ge i k with h1 | h1
    · have := h.lo i x h1 hi; omega
    · exact h1
  have hil := (List.getElem?_eq_some_iff.1 hi).1
  have hk : l[k]? = some l[k] := List.getElem?_eq_getElem (by omega)
  rcases Nat.eq_or_lt_of_le hki with h1 | h1
  · subst h1; exact ⟨x, hi, rfl, find_of hr hx⟩
  · have h2 := h.hi k _ (Nat.le_refl _) hk
    have h3 := rises_lt hr h1 hk hi
    omega
theorem place_at {l : List Lv} {key : Int} {k : Nat} {x : Lv} (hr : Rises l) (h : Place l key k) (hk : l[k]? = some x) : heldB l key = (x.key == key) := by
  rcases e : (x.key == key)
  · rcases e2 : heldB l key
    · rfl
    · obtain ⟨y, hy, h1, -⟩ := place_held hr h e2
      rw [hk] at hy; injection hy with hy; subst hy
      rw [h1] at e; simp at e
  · exact held_iff.2 ⟨x, List.mem_of_getElem? hk, by simpa using e⟩
theorem place_end {l : List Lv} {key : Int} {k : Nat} (hr : Rises l) (h : Place l key k) (hk : ¬ k < l.length) : heldB l key = false := by
  rcases e2 : heldB l key
  · rfl
  · obtain ⟨y, hy, -⟩ := place_held hr h e2
    exact absurd (List.getElem?_eq_some_iff.1 hy).1 hk
theorem place_take {l : List Lv} {key : Int} {k : Nat} (h : Place l key k) (p : Lv → Bool) (h1 : ∀ x, x.key < key → p x = true) (h2 : ∀ x, key ≤ x.key → p x = false) : l.take k = l.filter p := by
  conv => rhs; rw [← List.take_append_drop k l, List.filter_append]
  rw [List.filter_eq_self.2, List.filter_eq_nil_iff.2, List.append_nil]
  · intro x hx
    obtain ⟨i, hi⟩ := List.mem_iff_getElem?.1 hx
    rw [List.getElem?_drop] at hi
    rw [h2 x (h.hi _ x (by omega) hi)]; simp
  · intro x hx
    obtain ⟨i, hi⟩ := List.mem_iff_getElem?.1 hx
    rw [List.getElem?_take] at hi
    split at hi
    · exact h1 x (h.lo i x (by assumption) hi)
    · cases hi
theorem place_drop {l : List Lv} {key : Int} {k : Nat} (h : Place l key k) (p : Lv → Bool) (h1 : ∀ x ∈ l, key ≤ x.key → p x = true) (h2 : ∀ x, x.key < key → p x = false) : l.drop k = l.filter p := by
  conv => rhs; rw [← List.take_append_drop k l, List.filter_append]
  rw [List.filter_eq_nil_iff.2, List.filter_eq_self.2, List.nil_append]
  · intro x hx
    obtain ⟨i, hi⟩ := List.mem_iff_getElem?.1 hx
    rw [List.getElem?_drop] at hi
    exact h1 x (List.mem_of_getElem? hi) (h.hi _ x (by omega) hi)
  · intro x hx
    obtain ⟨i, hi⟩ := List.mem_iff_getElem?.1 hx
    rw [List.getElem?_take] at hi
    split at hi
    · rw [h2 x (h.lo i x (by assumption) hi)]; simp
    · cases hi
def below_ (l : List Lv) (key : Int) : List Lv := l.filter (fun x => decide (x.key < key))
def above_ (l : List Lv) (key : Int) : List Lv := l.filter (fun x => decide (key < x.key))
def butK (l : List Lv) (key : Int) : List Lv := l.filter (fun x => !(x.key == key))
def setK (l : List Lv) (key : Int) (f : Lv → Lv) : List Lv := l.map (fun x => bif x.key == key then f x else x)
theorem place_below {l : List Lv} {key : Int} {k : Nat} (h : Place l key k) : l.take k = below_ l key :=
  place_take h _ (fun x hx => by simpa using hx) (fun x hx => by simpa using hx)
theorem place_above {l : List Lv} {key : Int} {k : Nat} (h : Place l key k) (hh : heldB l key = false) : l.drop k = above_ l key :=
  place_drop h _ (fun x hx h1 => by have := held_false.1 hh x hx; simp; omega) (fun x hx => by simp; omega)
theorem drop_cons {l : List Lv} {k : Nat} {x : Lv} (hx : l[k]? = some x) : l.drop k = x :: l.drop (k + 1) := by
  obtain ⟨h, rfl⟩ := List.getElem?_eq_some_iff.1 hx
  exact List.drop_eq_getElem_cons h
theorem place_but {l : List Lv} {key : Int} {k : Nat} {x : Lv} (hr : Rises l) (h : Place l key k) (hx : l[k]? = some x) (hk : x.key = key) : l.take k ++ l.drop (k + 1) = butK l key := by
  unfold butK
  conv => rhs; rw [← List.take_append_drop k l, List.filter_append, drop_cons hx]
  rw [List.filter_cons, hk]
  simp only [beq_self_eq_true, Bool.not_true, Bool.false_eq_true, if_false]
  congr 1
  · symm; rw [List.filter_eq_self]
    intro y hy
    obtain ⟨i, hi⟩ := List.mem_iff_getElem?.1 hy
    rw [List.getElem?_take] at hi
    split at hi
    · have := h.lo i y (by assumption) hi; simp; omega
    · cases hi
  · symm; rw [List.filter_eq_self]
    intro y hy
    obtain ⟨i, hi⟩ := List.mem_iff_getElem?.1 hy
    rw [List.getElem?_drop] at hi
    have := rises_lt hr (by omega : k < k + 1 + i) hx hi; simp; omega
theorem place_set {l : List Lv} {key : Int} {k : Nat} {x : Lv} (hr : Rises l) (hx : l[k]? = some x) (hk : x.key = key) (f : Lv → Lv) : l.set k (f x) = setK l key f := by
  apply List.ext_getElem?
  intro i
  unfold setK
  rw [List.getElem?_set, List.getElem?_map]
  by_cases hi : k = i
  · subst hi
    rw [if_pos rfl, if_pos (List.getElem?_eq_some_iff.1 hx).1, hx]
    simp [hk]
  · rw [if_neg hi]
    rcases e : l[i]? with _ | y
    · rfl
    · have hne : ¬ y.key = key := by
        intro e2
        rcases Nat.lt_or_gt_of_ne hi with h1 | h1
        · have := rises_lt hr h1 hx e; omega
        · have := rises_lt hr h1 e hx; omega
      have : (y.key == key) = false := by simpa using hne
      simp [this]

/-! ### The least end -/
def leastU : List Lv → Int
  | [] => 0
  | x :: r => r.foldl (fun a y => min a y.til) x.til
theorem foldl_min_le (r : List Lv) (a : Int) : r.foldl (fun a y => min a y.til) a ≤ a ∧ ∀ y ∈ r, r.foldl (fun a y => min a y.til) a ≤ y.til := by
  induction r generalizing a with
  | nil => exact ⟨Int.le_refl _, fun y hy => by cases hy⟩
  | cons x r ih =>
    have h := ih (min a x.til)
    refine ⟨by have := h.1; simp only [List.foldl_cons]; omega, fun y hy => ?_⟩
    rcases List.mem_cons.1 hy with rfl | hy
    · have := h.1; simp only [List.foldl_cons]; omega
    · exact h.2 y hy
theorem foldl_min_mem (r : List Lv) (a : Int) : r.foldl (fun a y => min a y.til) a = a ∨ ∃ y ∈ r, r.foldl (fun a y => min a y.til) a = y.til := by
  induction r generalizing a with
  | nil => exact .inl rfl
  | cons x r ih =>
    rcases ih (min a x.til) with h | ⟨y, hy, h⟩
    · simp only [List.foldl_cons]
      rw [h]
      by_cases h1 : a ≤ x.til
      · exact .inl (by omega)
      · exact .inr ⟨x, by simp, by omega⟩
    · exact .inr ⟨y, by simp [hy], h⟩
theorem leastU_le {l : List Lv} {x : Lv} (h : x ∈ l) : leastU l ≤ x.til := by
  rcases l with _ | ⟨y, r⟩
  · cases h
  · rcases List.mem_cons.1 h with rfl | h
    · exact (foldl_min_le r _).1
    · exact (foldl_min_le r _).2 x h
theorem leastU_mem {l : List Lv} (h : l ≠ []) : ∃ x ∈ l, leastU l = x.til := by
  rcases l with _ | ⟨y, r⟩
  · exact absurd rfl h
  · rcases foldl_min_mem r y.til with h | ⟨z, hz, h⟩
    · exact ⟨y, by simp, h⟩
    · exact ⟨z, by simp [hz], h⟩
theorem leastU_congr {a b : List Lv} (h : ∀ x, x ∈ a ↔ x ∈ b) : leastU a = leastU b := by
  by_cases ha : a = []
  · subst ha
    have : b = [] := List.eq_nil_iff_forall_not_mem.2 (fun x hx => by have := (h x).2 hx; cases this)
    rw [this]
  · have hb : b ≠ [] := by
      intro e; subst e
      exact ha (List.eq_nil_iff_forall_not_mem.2 (fun x hx => by have := (h x).1 hx; cases this))
    obtain ⟨x, hx, e1⟩ := leastU_mem ha
    obtain ⟨y, hy, e2⟩ := leastU_mem hb
    have h1 := leastU_le ((h x).1 hx)
    have h2 := leastU_le ((h y).2 hy)
    omega
theorem leastU_snoc (l : List Lv) (x : Lv) : leastU (l ++ [x]) = if l = [] then x.til else min (leastU l) x.til := by
  rcases l with _ | ⟨y, r⟩
  · rfl
  · simp [leastU]
theorem leastU_start (x : Lv) (r : List Lv) : (x :: r).foldl (fun a y => min a y.til) x.til = leastU (x :: r) := by
  simp [leastU]

/-! ### What the calls come to -/
def tickP (t : Tv) (now : Int) : Tv × List Lv × Int :=
  bif okT t && !decide (now < t.now) then (⟨t.last, now, t.l.filter (fun x => !decide (x.til ≤ now))⟩, t.l.filter (fun x => decide (x.til ≤ now)), 0) else (zT, [], 1)
def grantOk (t : Tv) (key host ttl : Int) : Bool := okT t && (!decide (key < 0) && (hostB host && ttlB ttl))
def newL (t : Tv) (key host ttl : Int) : Lv := ⟨key, host, t.last + 1, t.now + ttl⟩
def putL (l : List Lv) (key : Int) (x : Lv) : List Lv := below_ l key ++ [x] ++ above_ l key
def grantP (t : Tv) (key host ttl : Int) : Tv × Lv × Int :=
  bif grantOk t key host ttl then (bif heldB t.l key then (zT, zL, 60) else (⟨t.last + 1, t.now, putL t.l key (newL t key host ttl)⟩, newL t key host ttl, 0)) else (zT, zL, 1)
def getL (l : List Lv) (key : Int) : Lv := (findL l key).getD zL
def longer (t : Tv) (ttl : Int) (x : Lv) : Lv := ⟨x.key, x.host, x.epoch, max x.til (t.now + ttl)⟩
def renewP (t : Tv) (key host epoch ttl : Int) : Tv × Int :=
  bif okT t && ttlB ttl then (bif heldB t.l key then (bif (getL t.l key).host != host || (getL t.l key).epoch != epoch then (zT, 61) else (⟨t.last, t.now, setK t.l key (longer t ttl)⟩, 0)) else (zT, 4)) else (zT, 1)
def revokeP (t : Tv) (key : Int) : Tv × Int :=
  bif okT t then (bif heldB t.l key then (⟨t.last, t.now, butK t.l key⟩, 0) else (zT, 4)) else (zT, 1)
def holdP (t : Tv) (key : Int) : Lv × Bool := bif okT t && heldB t.l key then (getL t.l key, true) else (zL, false)
def ofP (t : Tv) (host : Int) : List Int := bif okT t then (t.l.filter (fun x => x.host == host)).map Lv.key else []
def named (l : List Lv) (keys : List Int) : List Lv := bif keys.isEmpty then l else l.filter (fun x => keys.contains x.key)
def nextP (t : Tv) (keys : List Int) : Int := bif okT t then leastU (named t.l keys) else 0
structure Ov where
  d : Int
  a : Int
  b : Int
  c : Int
  e : Int
def bodyP (t : Tv) (o : Ov) : Tv × List Lv × Int :=
  bif o.d == 0 then tickP t o.a
  else bif o.d == 1 then ((grantP t o.a o.b o.c).1, [(grantP t o.a o.b o.c).2.1], (grantP t o.a o.b o.c).2.2)
  else bif o.d == 2 then ((renewP t o.a o.b o.e o.c).1, [], (renewP t o.a o.b o.e o.c).2)
  else bif o.d == 3 then ((revokeP t o.a).1, [], (revokeP t o.a).2)
  else (t, bif (holdP t o.a).2 then [(holdP t o.a).1] else [], 0)
end Lea
end Go.Proofs.YtmflngclncidjaaGreat
/-
  lease IN PLAIN: a table that may be stays one, call by call.
-/
namespace Go.Proofs.YtmflngclncidjaaGreat
open Go.RowKit Mem
namespace Lea
theorem split_at {l : List Lv} {key : Int} (hr : Rises l) (hh : heldB l key = false) : below_ l key ++ above_ l key = l := by
  induction l with
  | nil => rfl
  | cons x r ih =>
    have h1 : Rises r := (List.pairwise_cons.1 hr).2
    have h2 : heldB r key = false := held_false.2 (fun y hy => held_false.1 hh y (List.mem_cons_of_mem _ hy))
    have h3 : x.key ≠ key := held_false.1 hh x (by simp)
    have h4 := ih h1 h2
    unfold below_ above_ at h4 ⊢
    by_cases h5 : x.key < key
    · rw [List.filter_cons_of_pos (by simpa using h5), List.filter_cons_of_neg (by simp; omega), List.cons_append, h4]
    · have h6 : ∀ y ∈ r, key < y.key := fun y hy => by have := (List.pairwise_cons.1 hr).1 y hy; omega
      rw [List.filter_cons_of_neg (by simpa using h5), List.filter_cons_of_pos (by simp; omega), List.filter_eq_nil_iff.2 (fun y hy => by have := h6 y hy; simp; omega), List.filter_eq_self.2 (fun y hy => by have := h6 y hy; simpa using this), List.nil_append]
theorem putL_perm {l : List Lv} {key : Int} (x : Lv) (hr : Rises l) (hh : heldB l key = false) : (putL l key x).Perm (x :: l) := by
  unfold putL
  rw [List.append_assoc, List.singleton_append]
  refine List.perm_middle.trans ?_
  rw [split_at hr hh]
theorem putL_mem {l : List Lv} {key : Int} {x y : Lv} (hr : Rises l) (hh : heldB l key = false) : y ∈ putL l key x ↔ y = x ∨ y ∈ l := by
  rw [(putL_perm x hr hh).mem_iff, List.mem_cons]
theorem putL_len {l : List Lv} {key : Int} {x : Lv} (hr : Rises l) (hh : heldB l key = false) : (putL l key x).length = l.length + 1 := by
  rw [(putL_perm x hr hh).length_eq, List.length_cons]
theorem putL_rises {l : List Lv} {key : Int} {x : Lv} (hr : Rises l) (hx : x.key = key) : Rises (putL l key x) := by
  unfold putL below_ above_ Rises
  rw [List.pairwise_append, List.pairwise_append]
  refine ⟨⟨List.Pairwise.filter _ hr, by simp, ?_⟩, List.Pairwise.filter _ hr, ?_⟩
  · intro a ha b hb
    simp only [List.mem_filter, decide_eq_true_eq] at ha
    simp only [List.mem_singleton] at hb
    subst hb
    omega
  · intro a ha b hb
    simp only [List.mem_filter, decide_eq_true_eq] at hb
    simp only [List.mem_append, List.mem_filter, decide_eq_true_eq, List.mem_singleton] at ha
    rcases ha with ha | ha
    · omega
    · subst ha; omega
theorem putL_differ {l : List Lv} {key : Int} {x : Lv} (hr : Rises l) (hh : heldB l key = false) (hd : Differ l) (hx : ∀ y ∈ l, y.epoch ≠ x.epoch) : Differ (putL l key x) := by
  unfold Differ
  have hp := (putL_perm x hr hh).map Lv.epoch
  unfold List.Nodup
  rw [hp.pairwise_iff (fun h => Ne.symm h), List.map_cons, List.pairwise_cons]
  refine ⟨fun a ha => ?_, hd⟩
  obtain ⟨y, hy, rfl⟩ := List.mem_map.1 ha
  exact Ne.symm (hx y hy)
theorem butK_put {l : List Lv} {key : Int} {x : Lv} (hr : Rises l) (hh : heldB l key = false) (hx : x.key = key) : butK (putL l key x) key = l := by
  unfold butK putL
  rw [List.filter_append, List.filter_append]
  have h1 : (below_ l key).filter (fun x => !(x.key == key)) = below_ l key := by
    rw [List.filter_eq_self]; intro y hy; unfold below_ at hy; simp only [List.mem_filter, decide_eq_true_eq] at hy; simp; omega
  have h2 : (above_ l key).filter (fun x => !(x.key == key)) = above_ l key := by
    rw [List.filter_eq_self]; intro y hy; unfold above_ at hy; simp only [List.mem_filter, decide_eq_true_eq] at hy; simp; omega
  rw [h1, h2, List.filter_cons_of_neg (by simp [hx]), List.filter_nil, List.append_nil, split_at hr hh]
theorem find_put_other {l : List Lv} {a key : Int} {x : Lv} (hr : Rises l) (hh : heldB l a = false) (hx : x.key = a) (hne : a ≠ key) : findL (putL l a x) key = findL l key := by
  have h0 : findL l key = findL (below_ l a ++ above_ l a) key := by rw [split_at hr hh]
  rw [h0]
  unfold findL putL
  have : (x.key == key) = false := by rw [hx]; simpa using hne
  rw [List.find?_append, List.find?_append, List.find?_append, List.find?_cons, this, List.find?_nil]
  simp
theorem find_but_other {l : List Lv} {a key : Int} (hne : a ≠ key) : findL (butK l a) key = findL l key := by
  unfold findL butK
  rw [List.find?_filter]
  congr 1
  funext x
  by_cases h : x.key = key
  · simp [h, Ne.symm hne]
  · have : (x.key == key) = false := by simpa using h
    simp [this]
theorem find_but {l : List Lv} {key : Int} : heldB (butK l key) key = false := by
  rw [held_false]
  intro x hx
  unfold butK at hx
  simp only [List.mem_filter] at hx
  simpa using hx.2
theorem find_set {l : List Lv} {a key : Int} {f : Lv → Lv} (hf : ∀ x, (f x).key = x.key) : findL (setK l a f) key = (findL l key).map (fun x => bif x.key == a then f x else x) := by
  unfold findL setK
  rw [List.find?_map]
  congr 1
  congr 1
  funext x
  simp only [Function.comp]
  rcases x.key == a
  · rfl
  · simp [hf]
theorem find_set_other {l : List Lv} {a key : Int} {f : Lv → Lv} (hf : ∀ x, (f x).key = x.key) (hne : a ≠ key) : findL (setK l a f) key = findL l key := by
  rw [find_set hf]
  rcases e : findL l key with _ | x
  · rfl
  · have h1 := (find_some e).2
    have : (x.key == a) = false := by rw [h1]; simpa using Ne.symm hne
    simp [this]

/-! ### What may be stays so -/
theorem mayB_of {last now last' now' : Int} {x : Lv} (h : mayB last now x = true) (h1 : last ≤ last') (h2 : now' < x.til) : mayB last' now' x = true := by
  rw [mayB_iff] at h ⊢
  omega
theorem okT_grant {t : Tv} {key host ttl : Int} (hg : grantOk t key host ttl = true) (hh : heldB t.l key = false) : okT ⟨t.last + 1, t.now, putL t.l key (newL t key host ttl)⟩ = true := by
  unfold grantOk at hg
  simp only [Bool.and_eq_true, Bool.not_eq_true', decide_eq_false_iff_not] at hg
  obtain ⟨hok, hk, hho, hto⟩ := hg
  have hm := fun x hx => okT_may hok (x := x) hx
  obtain ⟨h1, h2, h3, h4, h5⟩ := okT_iff.1 hok
  refine okT_iff.2 ⟨by show (0 : Int) ≤ t.last + 1; omega, h2, putL_rises h3 rfl, putL_differ h3 hh h4 ?_, ?_⟩
  · intro y hy
    have := mayB_iff.1 (hm y hy)
    show y.epoch ≠ t.last + 1
    omega
  · intro y hy
    rcases (putL_mem h3 hh).1 hy with rfl | hy
    · refine mayB_iff.2 ?_
      unfold hostB at hho
      unfold ttlB at hto
      simp only [Bool.and_eq_true, decide_eq_true_eq] at hho hto
      show 0 ≤ key ∧ (0 ≤ host ∧ host < 8) ∧ 1 ≤ t.last + 1 ∧ t.last + 1 ≤ t.last + 1 ∧ t.now < t.now + ttl
      omega
    · have := mayB_iff.1 (hm y hy)
      exact mayB_of (hm y hy) (by show t.last ≤ t.last + 1; omega) (by show t.now < _; omega)
theorem okT_tick {t : Tv} {now : Int} (hok : okT t = true) (hn : t.now ≤ now) : okT ⟨t.last, now, t.l.filter (fun x => !decide (x.til ≤ now))⟩ = true := by
  obtain ⟨h1, h2, h3, h4, h5⟩ := okT_iff.1 hok
  refine okT_iff.2 ⟨h1, by show 0 ≤ now; omega, List.Pairwise.filter _ h3, List.Pairwise.sublist (List.Sublist.map _ List.filter_sublist) h4, ?_⟩
  intro x hx
  simp only [List.mem_filter, Bool.not_eq_true', decide_eq_false_iff_not] at hx
  exact mayB_of (h5 x hx.1) (Int.le_refl _) (by show now < _; omega)
theorem okT_but {t : Tv} {key : Int} (hok : okT t = true) : okT ⟨t.last, t.now, butK t.l key⟩ = true := by
  obtain ⟨h1, h2, h3, h4, h5⟩ := okT_iff.1 hok
  refine okT_iff.2 ⟨h1, h2, List.Pairwise.filter _ h3, List.Pairwise.sublist (List.Sublist.map _ List.filter_sublist) h4, ?_⟩
  intro x hx
  exact h5 x (List.mem_filter.1 (show x ∈ List.filter _ t.l from hx)).1
theorem okT_set {t : Tv} {key ttl : Int} (hok : okT t = true) : okT ⟨t.last, t.now, setK t.l key (longer t ttl)⟩ = true := by
  obtain ⟨h1, h2, h3, h4, h5⟩ := okT_iff.1 hok
  refine okT_iff.2 ⟨h1, h2, ?_, ?_, ?_⟩
  · unfold Rises setK
    rw [List.pairwise_map]
    refine List.Pairwise.imp ?_ h3
    intro a b hab
    rcases e1 : (a.key == key) <;> rcases e2 : (b.key == key) <;> simpa [longer] using hab
  · unfold Differ setK at *
    rw [List.map_map]
    have : (Lv.epoch ∘ fun x => bif x.key == key then longer t ttl x else x) = Lv.epoch := by
      funext x
      simp only [Function.comp]
      rcases x.key == key <;> rfl
    rw [this]
    exact h4
  · intro y hy
    unfold setK at hy
    obtain ⟨x, hx, rfl⟩ := List.mem_map.1 hy
    have h6 := mayB_iff.1 (h5 x hx)
    refine mayB_iff.2 ?_
    rcases x.key == key
    · exact h6
    · show 0 ≤ x.key ∧ (0 ≤ x.host ∧ x.host < 8) ∧ 1 ≤ x.epoch ∧ x.epoch ≤ t.last ∧ t.now < max x.til (t.now + ttl)
      omega
theorem okT_more {t : Tv} {last : Int} (hok : okT t = true) (h : t.last ≤ last) : okT ⟨last, t.now, t.l⟩ = true := by
  obtain ⟨h1, h2, h3, h4, h5⟩ := okT_iff.1 hok
  refine okT_iff.2 ⟨by show 0 ≤ last; omega, h2, h3, h4, ?_⟩
  intro x hx
  have h6 := mayB_iff.1 (h5 x hx)
  exact mayB_of (h5 x hx) h (by show t.now < _; omega)

/-! ### What is done, by its error -/
theorem tick_cases (t : Tv) (now : Int) : (okT t = true ∧ t.now ≤ now ∧ tickP t now = (⟨t.last, now, t.l.filter (fun x => !decide (x.til ≤ now))⟩, t.l.filter (fun x => decide (x.til ≤ now)), 0)) ∨ tickP t now = (zT, [], 1) := by
  unfold tickP
  rcases e : okT t && !decide (now < t.now)
  · exact .inr rfl
  · simp only [Bool.and_eq_true, Bool.not_eq_true', decide_eq_false_iff_not] at e
    exact .inl ⟨e.1, by omega, rfl⟩
theorem grant_cases (t : Tv) (key host ttl : Int) : (grantOk t key host ttl = true ∧ heldB t.l key = false ∧ grantP t key host ttl = (⟨t.last + 1, t.now, putL t.l key (newL t key host ttl)⟩, newL t key host ttl, 0)) ∨ ∃ er, er ≠ 0 ∧ grantP t key host ttl = (zT, zL, er) := by
  unfold grantP
  rcases e : grantOk t key host ttl
  · exact .inr ⟨1, by omega, rfl⟩
  · rcases e2 : heldB t.l key
    · exact .inl ⟨rfl, rfl, rfl⟩
    · exact .inr ⟨60, by omega, rfl⟩
theorem renew_cases (t : Tv) (key host epoch ttl : Int) : (okT t = true ∧ renewP t key host epoch ttl = (⟨t.last, t.now, setK t.l key (longer t ttl)⟩, 0)) ∨ ∃ er, er ≠ 0 ∧ renewP t key host epoch ttl = (zT, er) := by
  unfold renewP
  rcases e : okT t
  · exact .inr ⟨1, by omega, by simp⟩
  · rcases e1 : ttlB ttl
    · exact .inr ⟨1, by omega, by simp⟩
    · rcases e2 : heldB t.l key
      · exact .inr ⟨4, by omega, by simp⟩
      · rcases e3 : ((getL t.l key).host != host || (getL t.l key).epoch != epoch)
        · exact .inl ⟨rfl, by simp⟩
        · exact .inr ⟨61, by omega, by simp⟩
theorem revoke_cases (t : Tv) (key : Int) : (okT t = true ∧ revokeP t key = (⟨t.last, t.now, butK t.l key⟩, 0)) ∨ ∃ er, er ≠ 0 ∧ revokeP t key = (zT, er) := by
  unfold revokeP
  rcases e : okT t
  · exact .inr ⟨1, by omega, by simp⟩
  · rcases e2 : heldB t.l key
    · exact .inr ⟨4, by omega, by simp⟩
    · exact .inl ⟨rfl, by simp⟩
theorem grantOk_ok {t : Tv} {key host ttl : Int} (hg : grantOk t key host ttl = true) : okT t = true := by
  unfold grantOk at hg
  simp only [Bool.and_eq_true] at hg
  exact hg.1
end Lea
end Go.Proofs.YtmflngclncidjaaGreat
/-
  span IN PLAIN: spans, which may be, and what each call comes to.
-/
namespace Go.Proofs.YtmflngclncidjaaGreat
open Go.RowKit Mem
namespace Spa
structure Sp where
  fr : Int
  to : Int
  own : Int
  ep : Int
def zS : Sp := ⟨0, 0, 0, 0⟩
def errOf (b : Bool) : Int := bif b then 0 else 1
def hostB (h : Int) : Bool := decide (0 ≤ h) && decide (h < 8)
def mayOwn (o e : Int) : Bool := bif o == -1 then e == 0 else (hostB o && decide (1 ≤ e))
def spB (e : Int) (s : Sp) : Bool := (s.fr == e) && (decide (s.fr < s.to) && mayOwn s.own s.ep)
def goodF : Int → List Sp → Bool
  | _, [] => true
  | e, s :: r => spB e s && goodF s.to r
def endF : Int → List Sp → Int
  | e, [] => e
  | _, s :: r => endF s.to r
def okS (l : List Sp) : Bool := goodF 0 l && (!l.isEmpty && decide (endF 0 l ≤ 1099511627776))
def Ch : Int → List Sp → Int → Prop
  | e, [], e' => e = e'
  | e, s :: r, e' => s.fr = e ∧ s.fr < s.to ∧ Ch s.to r e'
def May (l : List Sp) : Prop := ∀ s ∈ l, mayOwn s.own s.ep = true

theorem mayOwn_iff {o e : Int} : mayOwn o e = true ↔ (o = -1 ∧ e = 0) ∨ (0 ≤ o ∧ o < 8 ∧ 1 ≤ e) := by
  unfold mayOwn hostB
  by_cases h : o = -1
  · subst h; simp
  · have : (o == -1) = false := by simpa using h
    simp only [this, cond_false, Bool.and_eq_true, decide_eq_true_eq]
    omega
theorem spB_iff {e : Int} {s : Sp} : spB e s = true ↔ s.fr = e ∧ s.fr < s.to ∧ mayOwn s.own s.ep = true := by
  unfold spB; simp only [Bool.and_eq_true, beq_iff_eq, decide_eq_true_eq]
theorem goodF_iff {e : Int} {l : List Sp} : goodF e l = true ↔ Ch e l (endF e l) ∧ May l := by
  induction l generalizing e with
  | nil => simp [goodF, Ch, endF, May]
  | cons s r ih =>
    simp only [goodF, Bool.and_eq_true, spB_iff, ih, Ch, endF, May, List.mem_cons, forall_eq_or_imp]
    constructor
    · rintro ⟨⟨a, b, c⟩, d, e⟩; exact ⟨⟨a, b, d⟩, c, e⟩
    · rintro ⟨⟨a, b, d⟩, c, e⟩; exact ⟨⟨a, b, c⟩, d, e⟩
theorem goodF_app {e : Int} {a b : List Sp} : goodF e (a ++ b) = (goodF e a && goodF (endF e a) b) := by
  induction a generalizing e with
  | nil => simp [goodF, endF]
  | cons s r ih => simp only [List.cons_append, goodF, endF, ih, Bool.and_assoc]
theorem endF_app {e : Int} {a b : List Sp} : endF e (a ++ b) = endF (endF e a) b := by
  induction a generalizing e with
  | nil => rfl
  | cons s r ih => simp only [List.cons_append, endF, ih]
theorem endF_last {e : Int} {l : List Sp} {s : Sp} (h : l.getLast? = some s) : endF e l = s.to := by
  obtain ⟨r, rfl⟩ := List.getLast?_eq_some_iff.1 h
  rw [endF_app]; rfl
/-- Spans that may be: one behind the other, all owners may be. -/
theorem okS_iff {l : List Sp} : okS l = true ↔ Ch 0 l (endF 0 l) ∧ May l ∧ l ≠ [] ∧ endF 0 l ≤ 1099511627776 := by
  unfold okS
  simp only [Bool.and_eq_true, goodF_iff, Bool.not_eq_true', List.isEmpty_eq_false_iff, decide_eq_true_eq, and_assoc]
theorem Ch.end_ {e e' : Int} {l : List Sp} (h : Ch e l e') : endF e l = e' := by
  induction l generalizing e with
  | nil => exact h
  | cons s r ih => exact ih h.2.2
theorem Ch.le {e e' : Int} {l : List Sp} (h : Ch e l e') : e ≤ e' := by
  induction l generalizing e with
  | nil => exact Int.le_of_eq h
  | cons s r ih => have := ih h.2.2; have := h.1; have := h.2.1; omega
theorem Ch.lt {e e' : Int} {l : List Sp} (h : Ch e l e') (hn : l ≠ []) : e < e' := by
  rcases l with _ | ⟨s, r⟩
  · exact absurd rfl hn
  · have := h.2.2.le; have := h.1; have := h.2.1; omega
theorem Ch.app {a b : List Sp} {e m e' : Int} (h : Ch e a m) (h2 : Ch m b e') : Ch e (a ++ b) e' := by
  induction a generalizing e with
  | nil => cases h; exact h2
  | cons s r ih => exact ⟨h.1, h.2.1, ih h.2.2⟩
theorem Ch.split {a b : List Sp} {e e' : Int} (h : Ch e (a ++ b) e') : ∃ m, Ch e a m ∧ Ch m b e' := by
  induction a generalizing e with
  | nil => exact ⟨e, rfl, h⟩
  | cons s r ih => obtain ⟨m, h1, h2⟩ := ih h.2.2; exact ⟨m, ⟨h.1, h.2.1, h1⟩, h2⟩
theorem Ch.mem {l : List Sp} {e e' : Int} (h : Ch e l e') {s : Sp} (hs : s ∈ l) : e ≤ s.fr ∧ s.fr < s.to ∧ s.to ≤ e' := by
  induction l generalizing e with
  | nil => cases hs
  | cons x r ih =>
    have h1 := h.1
    have h2 := h.2.1
    have h3 := h.2.2.le
    rcases List.mem_cons.1 hs with rfl | hs
    · exact ⟨by omega, h2, h3⟩
    · have := ih h.2.2 hs; exact ⟨by omega, this.2.1, this.2.2⟩
theorem okS_of {l : List Sp} {n : Int} (h : Ch 0 l n) (hm : May l) (h0 : 0 < n) (hn : n ≤ 1099511627776) : okS l = true := by
  refine okS_iff.2 ⟨by rw [h.end_]; exact h, hm, ?_, by rw [h.end_]; exact hn⟩
  rintro rfl
  have : (0 : Int) = n := h
  omega

/-! ### Whose a block is -/
def inS (k : Int) (s : Sp) : Bool := decide (s.fr ≤ k) && decide (k < s.to)
def findS (l : List Sp) (k : Int) : Option Sp := l.find? (inS k)
def who (l : List Sp) (k : Int) : Option (Int × Int) := (findS l k).map (fun s => (s.own, s.ep))
theorem inS_iff {k : Int} {s : Sp} : inS k s = true ↔ s.fr ≤ k ∧ k < s.to := by
  unfold inS; simp only [Bool.and_eq_true, decide_eq_true_eq]
theorem inS_false {k : Int} {s : Sp} : inS k s = false ↔ ¬ (s.fr ≤ k ∧ k < s.to) := by
  rw [← inS_iff, Bool.not_eq_true]
theorem findS_cons (s : Sp) (r : List Sp) (k : Int) : findS (s :: r) k = if s.fr ≤ k ∧ k < s.to then some s else findS r k := by
  unfold findS
  rw [List.find?_cons]
  by_cases h : s.fr ≤ k ∧ k < s.to
  · rw [if_pos h, inS_iff.2 h]
  · rw [if_neg h, inS_false.2 h]
theorem who_nil (k : Int) : who [] k = none := rfl
theorem who_cons (s : Sp) (r : List Sp) (k : Int) : who (s :: r) k = if s.fr ≤ k ∧ k < s.to then some (s.own, s.ep) else who r k := by
  unfold who
  rw [findS_cons]
  split <;> rfl
theorem findS_some {l : List Sp} {k : Int} {s : Sp} (h : findS l k = some s) : s ∈ l ∧ s.fr ≤ k ∧ k < s.to :=
  ⟨List.mem_of_find?_eq_some h, inS_iff.1 (List.find?_some h)⟩
theorem findS_out {l : List Sp} {e e' k : Int} (h : Ch e l e') (hk : k < e ∨ e' ≤ k) : findS l k = none := by
  unfold findS
  rw [List.find?_eq_none]
  intro s hs h1
  have := h.mem hs
  have := inS_iff.1 h1
  omega
theorem who_out {l : List Sp} {e e' k : Int} (h : Ch e l e') (hk : k < e ∨ e' ≤ k) : who l k = none := by
  unfold who; rw [findS_out h hk]; rfl
theorem findS_in {l : List Sp} {e e' k : Int} (h : Ch e l e') (h1 : e ≤ k) (h2 : k < e') : ∃ s, findS l k = some s := by
  induction l generalizing e with
  | nil => have : e = e' := h; omega
  | cons s r ih =>
    rw [findS_cons]
    split
    · exact ⟨s, rfl⟩
    · rename_i hn
      have := h.1
      exact ih h.2.2 (by omega)
theorem who_in {l : List Sp} {e e' k : Int} (h : Ch e l e') (h1 : e ≤ k) (h2 : k < e') : ∃ o p, who l k = some (o, p) := by
  obtain ⟨s, hs⟩ := findS_in h h1 h2
  exact ⟨s.own, s.ep, by unfold who; rw [hs]; rfl⟩
theorem who_mem {l : List Sp} {e e' k : Int} (h : Ch e l e') {s : Sp} (hs : s ∈ l) (hk : s.fr ≤ k ∧ k < s.to) : who l k = some (s.own, s.ep) := by
  induction l generalizing e with
  | nil => cases hs
  | cons x r ih =>
    rw [who_cons]
    rcases List.mem_cons.1 hs with rfl | hs
    · rw [if_pos hk]
    · have := h.2.2.mem hs
      rw [if_neg (by omega)]
      exact ih h.2.2 hs
theorem who_app {a b : List Sp} {e m e' : Int} (h : Ch e a m) (h2 : Ch m b e') (k : Int) : who (a ++ b) k = if k < m then who a k else who b k := by
  induction a generalizing e with
  | nil =>
    cases h
    rw [List.nil_append]
    split
    · rw [who_out h2 (.inl (by assumption))]; rfl
    · rfl
  | cons s r ih =>
    rw [List.cons_append, who_cons, who_cons, ih h.2.2]
    have := h.2.2.le
    split
    · rename_i h3; rw [if_pos (by omega)]
    · rfl

/-! ### Joined -/
def sameO (x s : Sp) : Bool := (x.own == s.own) && (x.ep == s.ep)
theorem sameO_iff {x s : Sp} : sameO x s = true ↔ x.own = s.own ∧ x.ep = s.ep := by unfold sameO; simp only [Bool.and_eq_true, beq_iff_eq]
def longer (x : Sp) (t : Int) : Sp := ⟨x.fr, t, x.own, x.ep⟩
def pushJ (out : List Sp) (s : Sp) : List Sp :=
  match out.getLast? with
  | none => [s]
  | some x => bif sameO x s then out.dropLast ++ [longer x s.to] else out ++ [s]
def joinF (out l : List Sp) : List Sp := l.foldl pushJ out
def joinS (l : List Sp) : List Sp := joinF [] l
theorem pushJ_nil (s : Sp) : pushJ [] s = [s] := rfl
theorem pushJ_snoc (a : List Sp) (x s : Sp) : pushJ (a ++ [x]) s = bif sameO x s then a ++ [longer x s.to] else a ++ [x] ++ [s] := by
  unfold pushJ
  rw [List.getLast?_concat]
  simp only [List.dropLast_concat]
theorem snoc_cases (l : List Sp) : l = [] ∨ ∃ a x, l = a ++ [x] := by
  rcases e : l.getLast? with _ | x
  · exact .inl (List.getLast?_eq_none_iff.1 e)
  · obtain ⟨r, rfl⟩ := List.getLast?_eq_some_iff.1 e
    exact .inr ⟨r, x, rfl⟩
/-- Two that belong together, or the one that they are. -/
theorem pushJ_two (out : List Sp) (x y : Sp) (h : x.own = y.own ∧ x.ep = y.ep) : pushJ (pushJ out x) y = pushJ out (longer x y.to) := by
  have hxy : sameO x y = true := sameO_iff.2 h
  rcases snoc_cases out with rfl | ⟨a, z, rfl⟩
  · have e : pushJ ([] ++ [x]) y = [] ++ [longer x y.to] := by rw [pushJ_snoc, hxy]; rfl
    exact e
  · have hl : sameO z (longer x y.to) = sameO z x := rfl
    rw [pushJ_snoc, pushJ_snoc, hl]
    rcases e : sameO z x
    · simp only [cond_false]
      rw [pushJ_snoc, hxy]; rfl
    · simp only [cond_true]
      have e1 := sameO_iff.1 e
      have : sameO (longer z x.to) y = true := sameO_iff.2 ⟨e1.1.trans h.1, e1.2.trans h.2⟩
      rw [pushJ_snoc, this]; rfl
theorem joinF_app (out a b : List Sp) : joinF out (a ++ b) = joinF (joinF out a) b := List.foldl_append ..
theorem joinF_cons (out : List Sp) (s : Sp) (r : List Sp) : joinF out (s :: r) = joinF (pushJ out s) r := rfl
theorem pushJ_len (out : List Sp) (s : Sp) : (pushJ out s).length ≤ out.length + 1 := by
  rcases snoc_cases out with rfl | ⟨a, z, rfl⟩
  · simp [pushJ_nil]
  · rw [pushJ_snoc]
    rcases sameO z s <;> simp
theorem joinF_len (out l : List Sp) : (joinF out l).length ≤ out.length + l.length := by
  induction l generalizing out with
  | nil => simp [joinF]
  | cons s r ih =>
    rw [joinF_cons]
    have := ih (pushJ out s)
    have := pushJ_len out s
    simp only [List.length_cons]; omega
theorem pushJ_ch {out : List Sp} {e m : Int} {s : Sp} (h : Ch e out m) (hs : s.fr = m) (ht : s.fr < s.to) : Ch e (pushJ out s) s.to := by
  rcases snoc_cases out with rfl | ⟨a, z, rfl⟩
  · cases h; exact ⟨hs, ht, rfl⟩
  · rw [pushJ_snoc]
    obtain ⟨k, h1, h2, h3, h4⟩ := h.split
    have h4 : z.to = m := h4
    rcases sameO z s
    · exact h.app ⟨hs, ht, rfl⟩
    · refine h1.app ⟨h2, ?_, rfl⟩
      show z.fr < s.to
      omega
theorem joinF_ch {out l : List Sp} {e m e' : Int} (h : Ch e out m) (h2 : Ch m l e') : Ch e (joinF out l) e' := by
  induction l generalizing out m with
  | nil => cases h2; exact h
  | cons s r ih => exact ih (pushJ_ch h h2.1 h2.2.1) h2.2.2
theorem joinS_ch {l : List Sp} {e : Int} {e' : Int} (h : Ch e l e') : Ch e (joinS l) e' := joinF_ch (m := e) rfl h
theorem pushJ_may {out : List Sp} {s : Sp} (h : May out) (hs : mayOwn s.own s.ep = true) : May (pushJ out s) := by
  rcases snoc_cases out with rfl | ⟨a, z, rfl⟩
  · intro x hx; simp [pushJ_nil] at hx; subst hx; exact hs
  · rw [pushJ_snoc]
    intro x hx
    rcases e : sameO z s
    · simp only [e, cond_false, List.mem_append, List.mem_singleton] at hx
      rcases hx with (hx | rfl) | rfl
      · exact h x (by simp [hx])
      · exact h x (by simp)
      · exact hs
    · simp only [e, cond_true, List.mem_append, List.mem_singleton] at hx
      rcases hx with hx | rfl
      · exact h x (by simp [hx])
      · exact h z (by simp)
theorem joinF_may {out l : List Sp} (h : May out) (hl : May l) : May (joinF out l) := by
  induction l generalizing out with
  | nil => exact h
  | cons s r ih => exact ih (pushJ_may h (hl s (by simp))) (fun x hx => hl x (by simp [hx]))
theorem joinS_may {l : List Sp} (hl : May l) : May (joinS l) := joinF_may (fun x hx => by cases hx) hl
theorem pushJ_who {out : List Sp} {e m : Int} {s : Sp} (h : Ch e out m) (hs : s.fr = m) (ht : s.fr < s.to) (k : Int) : who (pushJ out s) k = who (out ++ [s]) k := by
  rcases snoc_cases out with rfl | ⟨a, z, rfl⟩
  · rfl
  · rw [pushJ_snoc]
    obtain ⟨n, h1, h2, h3, h4⟩ := h.split
    have h4 : z.to = m := h4
    rcases e : sameO z s
    · rfl
    · have e1 := sameO_iff.1 e
      have e2 : Ch n [longer z s.to] s.to := ⟨h2, by show z.fr < s.to; omega, rfl⟩
      have e3 : Ch n [z, s] s.to := ⟨h2, h3, by omega, ht, rfl⟩
      rw [List.append_assoc, cond_true, who_app h1 e2, List.singleton_append, who_app h1 e3]
      split
      · rfl
      · rw [who_cons, who_cons, who_cons, who_nil]
        show (if z.fr ≤ k ∧ k < s.to then some (z.own, z.ep) else none) = _
        rw [e1.1, e1.2]
        by_cases c1 : z.fr ≤ k ∧ k < z.to
        · rw [if_pos c1, if_pos (by omega)]
        · rw [if_neg c1]
          by_cases c2 : s.fr ≤ k ∧ k < s.to
          · rw [if_pos c2, if_pos (by omega)]
          · rw [if_neg c2, if_neg (by omega)]
theorem joinF_who {out l : List Sp} {e m e' : Int} (h : Ch e out m) (h2 : Ch m l e') (k : Int) : who (joinF out l) k = who (out ++ l) k := by
  induction l generalizing out m with
  | nil => rw [List.append_nil]; rfl
  | cons s r ih =>
    have e1 := pushJ_ch h h2.1 h2.2.1
    rw [joinF_cons, ih e1 h2.2.2, who_app e1 h2.2.2, pushJ_who h h2.1 h2.2.1, show out ++ s :: r = (out ++ [s]) ++ r by simp, who_app (h.app ⟨h2.1, h2.2.1, rfl⟩ : Ch e (out ++ [s]) s.to) h2.2.2]
theorem joinS_who {l : List Sp} {e e' : Int} (h : Ch e l e') (k : Int) : who (joinS l) k = who l k := joinF_who (out := []) (m := e) rfl h k

/-! ### The joined form is one -/
def Apart : List Sp → Prop
  | [] => True
  | [_] => True
  | x :: y :: r => sameO x y = false ∧ Apart (y :: r)
theorem apart_tail {x : Sp} {r : List Sp} (h : Apart (x :: r)) : Apart r := by
  rcases r with _ | ⟨y, r⟩
  · exact trivial
  · exact h.2
theorem apart_snoc {a : List Sp} {x y : Sp} (h : Apart (a ++ [x])) (hy : sameO x y = false) : Apart (a ++ [x] ++ [y]) := by
  induction a with
  | nil => exact ⟨hy, trivial⟩
  | cons z a ih =>
    rcases a with _ | ⟨u, a⟩
    · exact ⟨h.1, hy, trivial⟩
    · exact ⟨h.1, ih h.2⟩
theorem apart_last {a : List Sp} {x : Sp} (t : Int) (h : Apart (a ++ [x])) : Apart (a ++ [longer x t]) := by
  induction a with
  | nil => exact trivial
  | cons z a ih =>
    rcases a with _ | ⟨u, a⟩
    · exact ⟨h.1, trivial⟩
    · exact ⟨h.1, ih h.2⟩
theorem pushJ_apart {out : List Sp} {s : Sp} (h : Apart out) : Apart (pushJ out s) := by
  rcases snoc_cases out with rfl | ⟨a, z, rfl⟩
  · exact trivial
  · rw [pushJ_snoc]
    rcases e : sameO z s
    · exact apart_snoc h e
    · exact apart_last _ h
theorem joinF_apart {out l : List Sp} (h : Apart out) : Apart (joinF out l) := by
  induction l generalizing out with
  | nil => exact h
  | cons s r ih => exact ih (pushJ_apart h)
theorem joinS_apart (l : List Sp) : Apart (joinS l) := joinF_apart trivial
theorem apart_eq {a b : List Sp} {e e' : Int} (ha : Ch e a e') (hb : Ch e b e') (pa : Apart a) (pb : Apart b) (hw : ∀ k, who a k = who b k) : a = b := by
  induction a generalizing e b with
  | nil =>
    rcases b with _ | ⟨y, b⟩
    · rfl
    · have h1 : e = e' := ha
      have := hb.lt (by simp); omega
  | cons x a ih =>
    rcases b with _ | ⟨y, b⟩
    · have h1 : e = e' := hb
      have := ha.lt (by simp); omega
    · have ha1 := ha.1
      have ha2 := ha.2.1
      have hb1 := hb.1
      have hb2 := hb.2.1
      have hw0 := hw e
      rw [who_cons, who_cons, if_pos (by omega), if_pos (by omega)] at hw0
      have hx : x.own = y.own ∧ x.ep = y.ep := by simpa using hw0
      have hto : x.to = y.to := by
        rcases Int.lt_trichotomy x.to y.to with h | h | h
        · rcases a with _ | ⟨z, a⟩
          · have h1 : x.to = e' := ha.2.2
            have := hb.2.2.le; omega
          · have h3 := ha.2.2.1
            have h4 := ha.2.2.2.1
            have h5 := hw x.to
            rw [who_cons, if_neg (by omega), who_cons, if_pos (by omega), who_cons, if_pos (by omega)] at h5
            have h6 : z.own = y.own ∧ z.ep = y.ep := by simpa using h5
            have h7 := pa.1
            rw [sameO_iff.2 ⟨hx.1.trans h6.1.symm, hx.2.trans h6.2.symm⟩] at h7
            cases h7
        · exact h
        · rcases b with _ | ⟨z, b⟩
          · have h1 : y.to = e' := hb.2.2
            have := ha.2.2.le; omega
          · have h3 := hb.2.2.1
            have h4 := hb.2.2.2.1
            have h5 := hw y.to
            rw [who_cons, if_pos (by omega), who_cons, if_neg (by omega), who_cons, if_pos (by omega)] at h5
            have h6 : x.own = z.own ∧ x.ep = z.ep := by simpa using h5
            have h7 := pb.1
            rw [sameO_iff.2 ⟨hx.1.symm.trans h6.1, hx.2.symm.trans h6.2⟩] at h7
            cases h7
      have hxy : x = y := by
        obtain ⟨x1, x2, x3, x4⟩ := x
        obtain ⟨y1, y2, y3, y4⟩ := y
        simp only at hx hto ha1 hb1
        obtain ⟨rfl, rfl⟩ := hx
        subst hto ha1 hb1
        rfl
      subst hxy
      congr 1
      refine ih ha.2.2 hb.2.2 (apart_tail pa) (apart_tail pb) (fun k => ?_)
      by_cases hk : k < x.to
      · rw [who_out ha.2.2 (.inl hk), who_out hb.2.2 (.inl hk)]
      · have := hw k
        rwa [who_cons, if_neg (by omega), who_cons, if_neg (by omega)] at this
/-- Spans that say the same of every block are the same when joined. -/
theorem join_eq {a b : List Sp} {e e' : Int} (ha : Ch e a e') (hb : Ch e b e') (hw : ∀ k, who a k = who b k) : joinS a = joinS b :=
  apart_eq (joinS_ch ha) (joinS_ch hb) (joinS_apart a) (joinS_apart b) (fun k => by rw [joinS_who ha, joinS_who hb, hw])
theorem join_again {l : List Sp} {e e' : Int} (h : Ch e l e') : joinS (joinS l) = joinS l :=
  join_eq (joinS_ch h) h (fun k => joinS_who h k)
end Spa
end Go.Proofs.YtmflngclncidjaaGreat
