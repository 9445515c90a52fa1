/-
  SEVERAL TEXTS IN ONE FILE: Mem, LeaMath, LeaFactA.
-/
import Derived.Test.YtcpkgcckjphbfaaGreatRows
import Derived.Laws.BitsAllLaws
import Derived.Laws.BytesArg
import Derived.Below
import Derived.Laws.OwnMore
import Derived.Laws.Rows
import Derived.Laws.Slices
import Derived.Deep.Draws
import Derived.WalkKit
import Derived.Maps.AppendAt
import Derived.OwnWalk
import Derived.Lib.Hide
import Derived.WideShapes
/-
  ROWS IN MEMORY, for all layers: a slice that reads as a list, its parts, what is appended, and its text.
-/
namespace Go.Proofs.YtcpkgcckjphbfaaGreat
open Go.RowKit
namespace Mem

def u (b : BitVec 8) : Int := (b.toNat : Int)
theorem u_nonneg (a : BitVec 8) : 0 ≤ u a := Int.natCast_nonneg _
theorem u_lt (a : BitVec 8) : u a < 256 := by have := a.isLt; unfold u; omega
theorem u_inj {a b : BitVec 8} (h : u a = u b) : a = b := by
  apply BitVec.eq_of_toNat_eq; unfold u at h; omega
/-- A byte, and an int, as a cell. -/
def cb (x : BitVec 8) : Value := .int .u8 (u x)
def ci (n : Int) : Value := .int .i64 n
theorem cb_one (x : BitVec 8) : (cb x).oneCell' = true := rfl
theorem ci_one (x : Int) : (ci x).oneCell' = true := rfl

theorem add_none (b o k : Nat) : (⟨b, o, none⟩ : Addr).add k = ⟨b, o + k, none⟩ := by
  unfold Addr.add; split <;> simp_all

/-- The slice reads as l. -/
structure Row {α : Type} (f : α → Value) (w : World) (A : Option Addr) (n c : Nat) (l : List α) : Prop where
  len : l.length = n
  cap : n ≤ c
  big : n ≤ 140737488351232
  at_ : 0 < n → ∃ b o, A = some ⟨b, o, none⟩ ∧ b < w.heap.size ∧ ∀ i x, l[i]? = some x → w.cell? ⟨b, o + i, none⟩ = some (f x)

section
variable {α : Type} {f : α → Value} {w w' : World} {A : Option Addr} {n c : Nat} {l : List α}
theorem Row.nil (f : α → Value) (w : World) : Row f w none 0 0 [] := ⟨rfl, by omega, by omega, fun h => absurd h (by omega)⟩
theorem Row.empty (f : α → Value) (w : World) (A : Option Addr) (c : Nat) : Row f w A 0 c [] := ⟨rfl, by omega, by omega, fun h => absurd h (by omega)⟩
theorem Row.keep (h : Row f w A n c l) (hs : w.heap.size ≤ w'.heap.size) (hb : ∀ k, k < w.heap.size → w'.heap[k]? = w.heap[k]?) : Row f w' A n c l := by
  refine ⟨h.len, h.cap, h.big, fun h0 => ?_⟩
  obtain ⟨b, o, e, hx, hc⟩ := h.at_ h0
  refine ⟨b, o, e, by omega, fun i x hi => ?_⟩
  rw [World.cell?_of_block (w := w) (hb b hx)]
  exact hc i x hi
theorem Row.below (h : Row f w A n c l) (hb : Below w.heap.size w w') : Row f w' A n c l := h.keep hb.size hb.block
theorem Row.drew (h : Row f w A n c l) : Row f w.drew A n c l := h.keep (Nat.le_refl _) fun _ _ => rfl
theorem Row.drewN (h : Row f w A n c l) (q : Nat) : Row f (w.drewN q) A n c l := h.keep (Nat.le_refl _) fun _ _ => rfl
theorem Row.alloc (h : Row f w A n c l) (o : Obj) : Row f (w.alloc o) A n c l := h.below ((Below.refl _ w).alloc (Nat.le_refl _) o)

def tailA (A : Option Addr) (c k : Nat) : Option Addr := if c = k then A else A.map (·.add k)
theorem Row.tail (h : Row f w A n c l) {k : Nat} (hk : k ≤ n) : Row f w (tailA A c k) (n - k) (c - k) (l.drop k) := by
  have hl := h.len
  have hc := h.cap
  have hb := h.big
  refine ⟨by simp [hl], by omega, by omega, fun h0 => ?_⟩
  obtain ⟨b, o, e, hx, hcell⟩ := h.at_ (by omega)
  refine ⟨b, o + k, ?_, hx, fun i x hi => ?_⟩
  · unfold tailA
    rw [if_neg (by omega), e]
    simp [add_none]
  · rw [List.getElem?_drop] at hi
    have := hcell _ _ hi
    rwa [Nat.add_assoc]
theorem Row.head (h : Row f w A n c l) {k : Nat} (hk : k ≤ n) : Row f w A k c (l.take k) := by
  have hl := h.len
  have hc := h.cap
  have hb := h.big
  refine ⟨by simp [hl]; omega, by omega, by omega, fun h0 => ?_⟩
  obtain ⟨b, o, e, hx, hcell⟩ := h.at_ (by omega)
  refine ⟨b, o, e, hx, fun i x hi => ?_⟩
  rw [List.getElem?_take] at hi
  split at hi
  · exact hcell _ _ hi
  · cases hi
theorem Row.mid (h : Row f w A n c l) {k j : Nat} (hk : k ≤ j) (hj : j ≤ n) : Row f w (tailA A c k) (j - k) (c - k) ((l.drop k).take (j - k)) := by
  exact (h.tail (by omega)).head (by omega)
/-- One cell. -/
theorem Row.cell (h : Row f w A n c l) {i : Nat} {x : α} (hi : l[i]? = some x) : ∃ b o, A = some ⟨b, o, none⟩ ∧ w.cell? ⟨b, o + i, none⟩ = some (f x) := by
  have : i < l.length := (List.getElem?_eq_some_iff.1 hi).1
  obtain ⟨b, o, e, -, hc⟩ := h.at_ (by have := h.len; omega)
  exact ⟨b, o, e, hc i x hi⟩

theorem Row.get (h : Row f w A n c l) {i : Nat} (hi : i < n) : ∃ x, l[i]? = some x := ⟨_, List.getElem?_eq_getElem (by have := h.len; omega)⟩

/-- What the call owns from base on. -/
def Owns (f : α → Value) (e : TypeId) (base : Nat) (w : World) (s : Value) (n : Nat) (l : List α) : Prop := w.ownsRow base e 1 s n (l.map f)
theorem Owns.nil (f : α → Value) (e : TypeId) (base : Nat) (w : World) : Owns f e base w (.slice none 0 0) 0 [] := World.ownsRow_nil _ _ _ _
theorem Owns.len {e : TypeId} {base : Nat} {s : Value} (h : Owns f e base w s n l) : l.length = n := by simpa using h.1
theorem Owns.row {e : TypeId} {base : Nat} {s : Value} (h : Owns f e base w s n l) (hn : n ≤ 140737488351232) : ∃ A c, s = .slice A n c ∧ Row f w A n c l := by
  have hl := h.len
  rcases h.2 with ⟨rfl, rfl⟩ | ⟨g, cap, cur, rfl, _, hg, hnc, hcm, hs, ht⟩
  · have : l = [] := List.eq_nil_of_length_eq_zero hl
    subst this
    exact ⟨none, 0, rfl, Row.nil f w⟩
  · refine ⟨some ⟨g, 0, none⟩, cap, rfl, hl, hnc, hn, fun _ => ⟨g, 0, rfl, (Array.getElem?_eq_some_iff.1 hg).1, fun i x hx => ?_⟩⟩
    have := World.ownsRow.cells (g := g) (h : w.ownsRow base e 1 _ n (l.map f)) rfl i (f x) (by rw [List.getElem?_map, hx]; rfl)
    simpa [add_none] using this
theorem Owns.slice {e : TypeId} {base : Nat} {s : Value} (h : Owns f e base w s n l) : ∃ A c, s = .slice A n c := by
  rcases h.2 with ⟨rfl, rfl⟩ | ⟨g, cap, cur, rfl, _⟩
  · exact ⟨none, 0, rfl⟩
  · exact ⟨_, _, rfl⟩
theorem Owns.below {e : TypeId} {base : Nat} {s : Value} (h : Owns f e base w s n l) (hb : Below w.heap.size w w') : Owns f e base w' s n l := by
  refine ⟨h.1, ?_⟩
  rcases h.2 with hn | ⟨g, cap, cur, e', hbg, hg, r⟩
  · exact .inl hn
  · exact .inr ⟨g, cap, cur, e', hbg, (hb.block g (Array.getElem?_eq_some_iff.1 hg).1).trans hg, r⟩
theorem Owns.mono {e : TypeId} {base base' : Nat} {s : Value} (h : Owns f e base w s n l) (hb : base' ≤ base) : Owns f e base' w s n l := by
  refine ⟨h.1, ?_⟩
  rcases h.2 with hn | ⟨g, cap, cur, e', hbg, r⟩
  · exact .inl hn
  · exact .inr ⟨g, cap, cur, e', Nat.le_trans hb hbg, r⟩
theorem Owns.alloc {e : TypeId} {base : Nat} {s : Value} (h : Owns f e base w s n l) (o : Obj) : Owns f e base (w.alloc o) s n l := h.below ((Below.refl _ w).alloc (Nat.le_refl _) o)
theorem Owns.drew {e : TypeId} {base : Nat} {s : Value} (h : Owns f e base w s n l) : Owns f e base w.drew s n l := h.below (Below.refl _ w).drew
/-- A new row of one's own. -/
theorem Owns.made (f : α → Value) (e : TypeId) (w : World) (l : List α) (hn : l.length ≤ maxLen) {base : Nat} (hb : base ≤ w.heap.size) : Owns f e base (w.alloc (.cells (l.map f).toArray e)) (.slice (some ⟨w.heap.size, 0, none⟩) l.length l.length) l.length l :=
  ⟨by simp, .inr ⟨w.heap.size, l.length, (l.map f).toArray, rfl, hb, heap_alloc_new w _, Nat.le_refl _, hn, by simp, by rw [Nat.mul_one]; exact List.take_of_length_le (by simp)⟩⟩
end

/-- append(s, x...) onto a row of the call's own; x nil, empty or not. -/
theorem run_append {α : Type} {P : Program} {f : α → Value} (hf : ∀ x, (f x).oneCell' = true) {t e : TypeId} (ht : P.underlying t = some (.slice e)) {z : Value} {bytes : Nat} (hinfo : (P.info? e).map (fun i => (i.zero, i.size, i.bytes)) = some (some z, 1, bytes)) (hzs : z.cells.size = 1)
    (w : World) (base : Nat) (s : Value) (n : Nat) (l : List α) (hown : Owns f e base w s n l) (A : Option Addr) (m c : Nat) (l' : List α) (hx : Row f w A m c l')
    (hbig : n + m ≤ 140737488351232) (hby : (n + m) * bytes ≤ 140737488355328) (hbase : base ≤ w.heap.size) :
    ∃ s' w', (Builtin.append_ #[t, t] t #[s, .slice A m c]).run P w = .ok s' w' ∧ Owns f e base w' s' (n + m) (l ++ l') ∧ Below base w w' ∧ (w' = w ∧ s' = s ∧ m = 0 ∨ 0 < n + m ∨ s' ≠ .slice none 0 0) := by
  obtain ⟨i, hi, hz0, hz1, hz2⟩ := info_parts hinfo
  have hone : ∀ q ∈ l'.map f, q.oneCell' = true := by
    intro q hq
    obtain ⟨x, _, rfl⟩ := List.mem_map.1 hq
    exact hf x
  rcases A with _ | ad
  · have hm : m = 0 := by
      rcases Nat.eq_zero_or_pos m with h0 | h0
      · exact h0
      · obtain ⟨b, o, e, _⟩ := hx.at_ h0
        cases e
    have hl : l' = [] := List.eq_nil_of_length_eq_zero (by rw [hx.len, hm])
    subst hm hl
    refine ⟨s, w, ?_, by simpa using hown, Below.refl _ _, .inl ⟨rfl, rfl, rfl⟩⟩
    rcases hown.2 with ⟨rfl, rfl⟩ | ⟨b, cap, cur, rfl, _, _, hnc, _⟩
    · simp [Builtin.append_, run_underlying ht, sizeOf, typeInfo, hi, Builtin.lenOf, Builtin.firstCells]
    · simp [Builtin.append_, run_underlying ht, sizeOf, typeInfo, hi, Builtin.lenOf, Builtin.firstCells, hnc, storeCells]
  · have hcells : ∀ j q, (l'.map f)[j]? = some q → w.cell? (ad.add j) = some q := by
      intro j q hq
      rw [List.getElem?_map] at hq
      obtain ⟨x, hxj, rfl⟩ := Option.map_eq_some_iff.1 hq
      have hlt : j < l'.length := (List.getElem?_eq_some_iff.1 hxj).1
      obtain ⟨b, o, e, _, hc⟩ := hx.at_ (by have := hx.len; omega)
      injection e with e
      subst e
      rw [add_none]
      exact hc j x hxj
    obtain ⟨s', w', hrun, h2, h3, h4, h5⟩ := run_append_own_at (P := P) w base t t e i _ 1 bytes ht hi hz0 hz1 hz2 hzs (by omega) s n _ hown ad m c (l'.map f) (by simp [hx.len]) hcells hone (by unfold maxLen; omega) hby hbase
    refine ⟨s', w', hrun, by unfold Owns; rw [List.map_append]; exact h2, (Below.refl base w).grown h3 hbase (fun k hk => (World.ownsRow.lt hown k hk).1), ?_⟩
    rcases Nat.eq_zero_or_pos (n + m) with h0 | h0
    · by_cases hn : s' = .slice none 0 0
      · obtain ⟨e1, e2⟩ := h4.1 hn
        subst e1
        refine .inl ⟨?_, hn, e2⟩
        subst hn e2
        have hnil : (Builtin.append_ #[t, t] t #[.slice none 0 0, .slice (some ad) 0 c]).run P w = .ok (.slice none 0 0) w := by
          simp [Builtin.append_, run_underlying ht, sizeOf, typeInfo, hi, Builtin.lenOf, Builtin.firstCells, loadCells, loadCellsFrom]
        rw [hnil] at hrun
        injection hrun with h1 h2
        exact h2.symm
      · exact .inr (.inr hn)
    · exact .inr (.inl h0)

theorem wpList_append_row {α : Type} {P : Program} {f : α → Value} (hf : ∀ x, (f x).oneCell' = true) {t e : TypeId} (ht : P.underlying t = some (.slice e)) {z : Value} {bytes : Nat} (hinfo : (P.info? e).map (fun i => (i.zero, i.size, i.bytes)) = some (some z, 1, bytes)) (hzs : z.cells.size = 1)
    {w : World} {ops : Array Oper} {rest : List Oper} {o : Oper} {a : Act} {Q : Exit → Act → World → Prop} (hgd : o.guard = none) (s x : Operand)
    (ho : o.op = .call { callee := .builtin .append, args := #[s, x], argTypes := #[t, t] }) (hty : o.type = t)
    (base : Nat) (sv : Value) (n : Nat) (l : List α) (hs : a.eval s = sv) (hown : Owns f e base w sv n l) (A : Option Addr) (m c : Nat) (l' : List α) (hx : a.eval x = .slice A m c) (h : Row f w A m c l')
    (hbig : n + m ≤ 140737488351232) (hby : (n + m) * bytes ≤ 140737488355328) (hbase : base ≤ w.heap.size)
    (hk : ∀ A' c' w', Owns f e base w' (.slice A' (n + m) c') (n + m) (l ++ l') → Below base w w' → wpList P ops Q rest (a.put o.dst (.slice A' (n + m) c')) w') :
    wpList P ops Q (o :: rest) a w := by
  refine wpList_plain hgd fun K hK => ?_
  obtain ⟨s', w', hrun, h2, h3, -⟩ := run_append hf ht hinfo hzs w base sv n l hown A m c l' h hbig hby hbase
  obtain ⟨A', c', rfl⟩ := h2.slice
  unfold Oper.wp execOp
  simp only [ho, hty, resolve, invoke, builtin, Sem.run_bind, Sem.run_pure, Result.andThen_ok, List.map_toArray, List.map_cons, List.map_nil, hs, hx, hrun]
  exact hK _ _ (hk A' c' w' h2 h3)

/-! ### Bytes -/
theorem info_byte : (Tryz.prog.info? 5).map (fun i => (i.zero, i.size, i.bytes)) = some (some (.int .u8 0), 1, 1) := by kernel_rfl

theorem run_tail (A : Option Addr) (n c k : Nat) (hk : k ≤ n) (w : World) : (Instr.slice 53 (.slice A n c) (some (.int .i64 (k : Int))) none none).run Tryz.prog w = .ok (.slice (tailA A c k) (n - k) (c - k)) w := by
  obtain ⟨i, hi, hz0, hz1, hz2⟩ := info_parts info_byte
  have h1 : (k : Int) ≤ (n : Int) := by omega
  have h0 : (0 : Int) ≤ (k : Int) := by omega
  simp [Instr.slice, Instr.sliceBounds, run_sliceBound, h0, h1, run_underlying Tryz.underlying53, sizeOf, typeInfo, hi, hz1, tailA]
theorem run_head (A : Option Addr) (n c k : Nat) (h : k ≤ c) (w : World) : (Instr.slice 53 (.slice A n c) none (some (.int .i64 (k : Int))) none).run Tryz.prog w = .ok (.slice A k c) w := by
  obtain ⟨i, hi, hz0, hz1, hz2⟩ := info_parts info_byte
  have e : (if c = 0 then A else A.map (·.add 0)) = A := by
    split
    · rfl
    · cases A with
      | none => rfl
      | some x => simp [Addr.add]
  have h1 : (k : Int) ≤ (c : Int) := by omega
  have h0 : (0 : Int) ≤ (k : Int) := by omega
  simp [Instr.slice, Instr.sliceBounds, run_sliceBound, h0, h1, run_underlying Tryz.underlying53, sizeOf, typeInfo, hi, e]
theorem run_mid (A : Option Addr) (n c k j : Nat) (hk : k ≤ j) (hj : j ≤ c) (w : World) : (Instr.slice 53 (.slice A n c) (some (.int .i64 (k : Int))) (some (.int .i64 (j : Int))) none).run Tryz.prog w = .ok (.slice (tailA A c k) (j - k) (c - k)) w := by
  obtain ⟨i, hi, hz0, hz1, hz2⟩ := info_parts info_byte
  have h1 : (k : Int) ≤ (j : Int) := by omega
  have h0 : (0 : Int) ≤ (k : Int) := by omega
  have h2 : (j : Int) ≤ (c : Int) := by omega
  have h3 : (0 : Int) ≤ (j : Int) := by omega
  simp [Instr.slice, Instr.sliceBounds, run_sliceBound, h0, h1, h2, h3, run_underlying Tryz.underlying53, sizeOf, typeInfo, hi, hz1, tailA]

/-- The bytes as a text. -/
def str (l : List (BitVec 8)) : ByteArray := strOfNums (l.map u)
theorem str_inj {l l' : List (BitVec 8)} (h : str l = str l') : l = l' := by
  unfold str strOfNums at h
  simp only [List.map_map, ByteArray.mk.injEq] at h
  have h := congrArg Array.toList h
  refine List.map_inj_right ?_ |>.1 h
  intro x y hxy
  have h1 := x.isLt
  have h2 := y.isLt
  apply BitVec.eq_of_toNat_eq
  have := congrArg UInt8.toNat hxy
  simp [u] at this
  omega
theorem str_eq (l l' : List (BitVec 8)) : (str l = str l') = (l = l') := propext ⟨str_inj, fun h => by rw [h]⟩
theorem str_beq (l l' : List (BitVec 8)) : ((str l).toList == (str l').toList) = decide (l = l') := by
  by_cases h : l = l'
  · subst h; simp
  · have : (str l).toList ≠ (str l').toList := fun e => by
      rw [ByteArray.toList_eq, ByteArray.toList_eq] at e
      exact h (str_inj (Go.WideShapes.bytes_inj e))
    simp [h, this]
theorem run_str {w : World} {A : Option Addr} {n c : Nat} {l : List (BitVec 8)} (h : Row cb w A n c l) : (convert 53 9 (.slice A n c)).run Tryz.prog w = .ok (.string (str l)) w := by
  rcases Nat.eq_zero_or_pos n with h0 | h0
  · have hl : l = [] := List.eq_nil_of_length_eq_zero (by rw [h.len, h0])
    subst hl h0
    rw [run_convert_bytes_string w _ _ _ _ _ c Tryz.underlying53 Tryz.underlying5 Tryz.underlying9]
    cases A with
    | none => simp [Conv.bytesToString, str, strOfNums]; rfl
    | some a =>
      rw [run_bytesToString w a 0 c [] (by simp [loadCells, loadCellsFrom])]
      rfl
  · obtain ⟨b, o, rfl, -, hc⟩ := h.at_ h0
    exact run_convert_bytes_arg w _ _ Tryz.underlying53 Tryz.underlying5 b o n c (l.map u) (by simp [h.len]) (fun i hi => by
      have hi' : i < l.length := by rw [h.len]; exact hi
      rw [hc i _ (List.getElem?_eq_getElem hi')]
      simp [cb, List.getD, List.getElem?_map, List.getElem?_eq_getElem hi']) _ Tryz.underlying9

theorem ret_int {k : IntKind} {a b : Int} (h : a = b) : Ending.returned (.int k a) = .returned (.int k b) := by rw [h]
theorem ret_bool {a b : Bool} (h : a = b) : Ending.returned (.bool a) = .returned (.bool b) := by rw [h]
end Mem
end Go.Proofs.YtcpkgcckjphbfaaGreat
/-
  lease IN PLAIN: leases, tables, which may be, and what each call comes to.
-/
namespace Go.Proofs.YtcpkgcckjphbfaaGreat
open Go.RowKit Mem
namespace Lea
structure Lv where
  key : Int
  host : Int
  epoch : Int
  til : Int
structure Tv where
  last : Int
  now : Int
  l : List Lv
def zL : Lv := ⟨0, 0, 0, 0⟩
def zT : Tv := ⟨0, 0, []⟩
def errOf (b : Bool) : Int := bif b then 0 else 1
def hostB (h : Int) : Bool := decide (0 ≤ h) && decide (h < 8)
def ttlB (n : Int) : Bool := decide (1 ≤ n) && decide (n ≤ 1099511627776)
def mayB (last now : Int) (x : Lv) : Bool := decide (0 ≤ x.key) && (hostB x.host && (decide (1 ≤ x.epoch) && (decide (x.epoch ≤ last) && decide (now < x.til))))
def Rises (l : List Lv) : Prop := l.Pairwise (fun a b => a.key < b.key)
def Differ (l : List Lv) : Prop := (l.map Lv.epoch).Nodup
instance (l : List Lv) : Decidable (Rises l) := inferInstanceAs (Decidable (List.Pairwise _ _))
instance (l : List Lv) : Decidable (Differ l) := inferInstanceAs (Decidable (List.Nodup _))
def risesB (l : List Lv) : Bool := decide (Rises l)
def differB (l : List Lv) : Bool := decide (Differ l)
def okT (t : Tv) : Bool := !decide (t.last < 0) && (!decide (t.now < 0) && (risesB t.l && (differB t.l && t.l.all (mayB t.last t.now))))
theorem okT_iff {t : Tv} : okT t = true ↔ 0 ≤ t.last ∧ 0 ≤ t.now ∧ Rises t.l ∧ Differ t.l ∧ ∀ x ∈ t.l, mayB t.last t.now x = true := by
  unfold okT risesB differB
  simp only [Bool.and_eq_true, Bool.not_eq_true', decide_eq_false_iff_not, Int.not_lt, decide_eq_true_eq, List.all_eq_true]
theorem mayB_iff {last now : Int} {x : Lv} : mayB last now x = true ↔ 0 ≤ x.key ∧ (0 ≤ x.host ∧ x.host < 8) ∧ 1 ≤ x.epoch ∧ x.epoch ≤ last ∧ now < x.til := by
  unfold mayB hostB
  simp only [Bool.and_eq_true, decide_eq_true_eq]
theorem okT_rises {t : Tv} (h : okT t = true) : Rises t.l := (okT_iff.1 h).2.2.1
theorem okT_may {t : Tv} (h : okT t = true) {x : Lv} (hx : x ∈ t.l) : mayB t.last t.now x = true := (okT_iff.1 h).2.2.2.2 x hx

/-! ### Where a key stands -/
def heldB (l : List Lv) (key : Int) : Bool := l.any (fun x => x.key == key)
def findL (l : List Lv) (key : Int) : Option Lv := l.find? (fun x => x.key == key)
structure Place (l : List Lv) (key : Int) (k : Nat) : Prop where
  le : k ≤ l.length
  lo : ∀ t x, t < k → l[t]? = some x → x.key < key
  hi : ∀ t x, k ≤ t → l[t]? = some x → key ≤ x.key
theorem rises_lt {l : List Lv} (h : Rises l) {i j : Nat} {x y : Lv} (hij : i < j) (hx : l[i]? = some x) (hy : l[j]? = some y) : x.key < y.key := by
  obtain ⟨hi, rfl⟩ := List.getElem?_eq_some_iff.1 hx
  obtain ⟨hj, rfl⟩ := List.getElem?_eq_some_iff.1 hy
  exact List.pairwise_iff_getElem.1 h i j hi hj hij
theorem rises_inj {l : List Lv} (h : Rises l) {x y : Lv} (hx : x ∈ l) (hy : y ∈ l) (e : x.key = y.key) : x = y := by
  obtain ⟨i, hi⟩ := List.mem_iff_getElem?.1 hx
  obtain ⟨j, hj⟩ := List.mem_iff_getElem?.1 hy
  rcases Nat.lt_trichotomy i j with hij | hij | hij
  · have := rises_lt h hij hi hj; omega
  · subst hij; rw [hi] at hj; injection hj
  · have := rises_lt h hij hj hi; omega
theorem held_iff {l : List Lv} {key : Int} : heldB l key = true ↔ ∃ x ∈ l, x.key = key := by
  unfold heldB; simp only [List.any_eq_true, beq_iff_eq]
theorem held_false {l : List Lv} {key : Int} : heldB l key = false ↔ ∀ x ∈ l, x.key ≠ key := by
  unfold heldB; simp only [List.any_eq_false, beq_iff_eq, ne_eq]
theorem find_held {l : List Lv} {key : Int} : heldB l key = (findL l key).isSome := by
  unfold heldB findL
  rw [Bool.eq_iff_iff, List.any_eq_true, List.find?_isSome]
theorem find_some {l : List Lv} {key : Int} {x : Lv} (h : findL l key = some x) : x ∈ l ∧ x.key = key :=
  ⟨List.mem_of_find?_eq_some h, by simpa using List.find?_some h⟩
theorem find_none {l : List Lv} {key : Int} (h : heldB l key = false) : findL l key = none := by
  rw [find_held] at h; exact Option.not_isSome_iff_eq_none.1 (by simp [h])
theorem find_of {l : List Lv} (h : Rises l) {x : Lv} (hx : x ∈ l) : findL l x.key = some x := by
  rcases e : findL l x.key with _ | y
  · unfold findL at e
    rw [List.find?_eq_none] at e
    exact absurd (e x hx) (by simp)
  · have := find_some e
    rw [rises_inj h this.1 hx this.2]
theorem place_held {l : List Lv} {key : Int} {k : Nat} (hr : Rises l) (h : Place l key k) (hh : heldB l key = true) : ∃ x, l[k]? = some x ∧ x.key = key ∧ findL l key = some x := by
  obtain ⟨x, hx, rfl⟩ := held_iff.1 hh
  obtain ⟨i, hi⟩ := List.mem_iff_getElem?.1 hx
  have hki : k ≤ i := by
    rcases Nat.lt_or_ge i k with h1 | h1
    · have := h.lo i x h1 hi; omega
    · exact h1
  have hil := (List.getElem?_eq_some_iff.1 hi).1
  have hk : l[k]? = some l[k] := List.getElem?_eq_getElem (by omega)
  rcases Nat.eq_or_lt_of_le hki with h1 | h1
  · subst h1; exact ⟨x, hi, rfl, find_of hr hx⟩
  · have h2 := h.hi k _ (Nat.le_refl _) hk
    have h3 := rises_lt hr h1 hk hi
    omega
theorem place_at {l : List Lv} {key : Int} {k : Nat} {x : Lv} (hr : Rises l) (h : Place l key k) (hk : l[k]? = some x) : heldB l key = (x.key == key) := by
  rcases e : (x.key == key)
  · rcases e2 : heldB l key
    · rfl
    · obtain ⟨y, hy, h1, -⟩ := place_held hr h e2
      rw [hk] at hy; injection hy with hy; subst hy
      rw [h1] at e; simp at e
  · exact held_iff.2 ⟨x, List.mem_of_getElem? hk, by simpa using e⟩
theorem place_end {l : List Lv} {key : Int} {k : Nat} (hr : Rises l) (h : Place l key k) (hk : ¬ k < l.length) : heldB l key = false := by
  rcases e2 : heldB l key
  · rfl
  · obtain ⟨y, hy, -⟩ := place_held hr h e2
    exact absurd (List.getElem?_eq_some_iff.1 hy).1 hk
theorem place_take {l : List Lv} {key : Int} {k : Nat} (h : Place l key k) (p : Lv → Bool) (h1 : ∀ x, x.key < key → p x = true) (h2 : ∀ x, key ≤ x.key → p x = false) : l.take k = l.filter p := by
  conv => rhs; rw [← List.take_append_drop k l, List.filter_append]
  rw [List.filter_eq_self.2, List.filter_eq_nil_iff.2, List.append_nil]
  · intro x hx
    obtain ⟨i, hi⟩ := List.mem_iff_getElem?.1 hx
    rw [List.getElem?_drop] at hi
    rw [h2 x (h.hi _ x (by omega) hi)]; simp
  · intro x hx
    obtain ⟨i, hi⟩ := List.mem_iff_getElem?.1 hx
    rw [List.getElem?_take] at hi
    split at hi
    · exact h1 x (h.lo i x (by assumption) hi)
    · cases hi
theorem place_drop {l : List Lv} {key : Int} {k : Nat} (h : Place l key k) (p : Lv → Bool) (h1 : ∀ x ∈ l, key ≤ x.key → p x = true) (h2 : ∀ x, x.key < key → p x = false) : l.drop k = l.filter p := by
  conv => rhs; rw [← List.take_append_drop k l, List.filter_append]
  rw [List.filter_eq_nil_iff.2, List.filter_eq_self.2, List.nil_append]
  · intro x hx
    obtain ⟨i, hi⟩ := List.mem_iff_getElem?.1 hx
    rw [List.getElem?_drop] at hi
    exact h1 x (List.mem_of_getElem? hi) (h.hi _ x (by omega) hi)
  · intro x hx
    obtain ⟨i, hi⟩ := List.mem_iff_getElem?.1 hx
    rw [List.getElem?_take] at hi
    split at hi
    · rw [h2 x (h.lo i x (by assumption) hi)]; simp
    · cases hi
def below_ (l : List Lv) (key : Int) : List Lv := l.filter (fun x => decide (x.key < key))
def above_ (l : List Lv) (key : Int) : List Lv := l.filter (fun x => decide (key < x.key))
def butK (l : List Lv) (key : Int) : List Lv := l.filter (fun x => !(x.key == key))
def setK (l : List Lv) (key : Int) (f : Lv → Lv) : List Lv := l.map (fun x => bif x.key == key then f x else x)
theorem place_below {l : List Lv} {key : Int} {k : Nat} (h : Place l key k) : l.take k = below_ l key :=
  place_take h _ (fun x hx => by simpa using hx) (fun x hx => by simpa using hx)
theorem place_above {l : List Lv} {key : Int} {k : Nat} (h : Place l key k) (hh : heldB l key = false) : l.drop k = above_ l key :=
  place_drop h _ (fun x hx h1 => by have := held_false.1 hh x hx; simp; omega) (fun x hx => by simp; omega)
theorem drop_cons {l : List Lv} {k : Nat} {x : Lv} (hx : l[k]? = some x) : l.drop k = x :: l.drop (k + 1) := by
  obtain ⟨h, rfl⟩ := List.getElem?_eq_some_iff.1 hx
  exact List.drop_eq_getElem_cons h
theorem place_but {l : List Lv} {key : Int} {k : Nat} {x : Lv} (hr : Rises l) (h : Place l key k) (hx : l[k]? = some x) (hk : x.key = key) : l.take k ++ l.drop (k + 1) = butK l key := by
  unfold butK
  conv => rhs; rw [← List.take_append_drop k l, List.filter_append, drop_cons hx]
  rw [List.filter_cons, hk]
  simp only [beq_self_eq_true, Bool.not_true, Bool.false_eq_true, if_false]
  congr 1
  · symm; rw [List.filter_eq_self]
    intro y hy
    obtain ⟨i, hi⟩ := List.mem_iff_getElem?.1 hy
    rw [List.getElem?_take] at hi
    split at hi
    · have := h.lo i y (by assumption) hi; simp; omega
    · cases hi
  · symm; rw [List.filter_eq_self]
    intro y hy
    obtain ⟨i, hi⟩ := List.mem_iff_getElem?.1 hy
    rw [List.getElem?_drop] at hi
    have := rises_lt hr (by omega : k < k + 1 + i) hx hi; simp; omega
theorem place_set {l : List Lv} {key : Int} {k : Nat} {x : Lv} (hr : Rises l) (hx : l[k]? = some x) (hk : x.key = key) (f : Lv → Lv) : l.set k (f x) = setK l key f := by
  apply List.ext_getElem?
  intro i
  unfold setK
  rw [List.getElem?_set, List.getElem?_map]
  by_cases hi : k = i
  · subst hi
    rw [if_pos rfl, if_pos (List.getElem?_eq_some_iff.1 hx).1, hx]
    simp [hk]
  · rw [if_neg hi]
    rcases e : l[i]? with _ | y
    · rfl
    · have hne : ¬ y.key = key := by
        intro e2
        rcases Nat.lt_or_gt_of_ne hi with h1 | h1
        · have := rises_lt hr h1 hx e; omega
        · have := rises_lt hr h1 e hx; omega
      have : (y.key == key) = false := by simpa using hne
      simp [this]

/-! ### The least end -/
def leastU : List Lv → Int
  | [] => 0
  | x :: r => r.foldl (fun a y => min a y.til) x.til
theorem foldl_min_le (r : List Lv) (a : Int) : r.foldl (fun a y => min a y.til) a ≤ a ∧ ∀ y ∈ r, r.foldl (fun a y => min a y.til) a ≤ y.til := by
  induction r generalizing a with
  | nil => exact ⟨Int.le_refl _, fun y hy => by cases hy⟩
  | cons x r ih =>
    have h := ih (min a x.til)
    refine ⟨by have := h.1; simp only [List.foldl_cons]; omega, fun y hy => ?_⟩
    rcases List.mem_cons.1 hy with rfl | hy
    · have := h.1; simp only [List.foldl_cons]; omega
    · exact h.2 y hy
theorem foldl_min_mem (r : List Lv) (a : Int) : r.foldl (fun a y => min a y.til) a = a ∨ ∃ y ∈ r, r.foldl (fun a y => min a y.til) a = y.til := by
  induction r generalizing a with
  | nil => exact .inl rfl
  | cons x r ih =>
    rcases ih (min a x.til) with h | ⟨y, hy, h⟩
    · simp only [List.foldl_cons]
      rw [h]
      by_cases h1 : a ≤ x.til
      · exact .inl (by omega)
      · exact .inr ⟨x, by simp, by omega⟩
    · exact .inr ⟨y, by simp [hy], h⟩
theorem leastU_le {l : List Lv} {x : Lv} (h : x ∈ l) : leastU l ≤ x.til := by
  rcases l with _ | ⟨y, r⟩
  · cases h
  · rcases List.mem_cons.1 h with rfl | h
    · exact (foldl_min_le r _).1
    · exact (foldl_min_le r _).2 x h
theorem leastU_mem {l : List Lv} (h : l ≠ []) : ∃ x ∈ l, leastU l = x.til := by
  rcases l with _ | ⟨y, r⟩
  · exact absurd rfl h
  · rcases foldl_min_mem r y.til with h | ⟨z, hz, h⟩
    · exact ⟨y, by simp, h⟩
    · exact ⟨z, by simp [hz], h⟩
theorem leastU_congr {a b : List Lv} (h : ∀ x, x ∈ a ↔ x ∈ b) : leastU a = leastU b := by
  by_cases ha : a = []
  · subst ha
    have : b = [] := List.eq_nil_iff_forall_not_mem.2 (fun x hx => by have := (h x).2 hx; cases this)
    rw [this]
  · have hb : b ≠ [] := by
      intro e; subst e
      exact ha (List.eq_nil_iff_forall_not_mem.2 (fun x hx => by have := (h x).1 hx; cases this))
    obtain ⟨x, hx, e1⟩ := leastU_mem ha
    obtain ⟨y, hy, e2⟩ := leastU_mem hb
    have h1 := leastU_le ((h x).1 hx)
    have h2 := leastU_le ((h y).2 hy)
    omega
theorem leastU_snoc (l : List Lv) (x : Lv) : leastU (l ++ [x]) = if l = [] then x.til else min (leastU l) x.til := by
  rcases l with _ | ⟨y, r⟩
  · rfl
  · simp [leastU]
theorem leastU_start (x : Lv) (r : List Lv) : (x :: r).foldl (fun a y => min a y.til) x.til = leastU (x :: r) := by
  simp [leastU]

/-! ### What the calls come to -/
def tickP (t : Tv) (now : Int) : Tv × List Lv × Int :=
  bif okT t && !decide (now < t.now) then (⟨t.last, now, t.l.filter (fun x => !decide (x.til ≤ now))⟩, t.l.filter (fun x => decide (x.til ≤ now)), 0) else (zT, [], 1)
def grantOk (t : Tv) (key host ttl : Int) : Bool := okT t && (!decide (key < 0) && (hostB host && ttlB ttl))
def newL (t : Tv) (key host ttl : Int) : Lv := ⟨key, host, t.last + 1, t.now + ttl⟩
def putL (l : List Lv) (key : Int) (x : Lv) : List Lv := below_ l key ++ [x] ++ above_ l key
def grantP (t : Tv) (key host ttl : Int) : Tv × Lv × Int :=
  bif grantOk t key host ttl then (bif heldB t.l key then (zT, zL, 60) else (⟨t.last + 1, t.now, putL t.l key (newL t key host ttl)⟩, newL t key host ttl, 0)) else (zT, zL, 1)
def getL (l : List Lv) (key : Int) : Lv := (findL l key).getD zL
def longer (t : Tv) (ttl : Int) (x : Lv) : Lv := ⟨x.key, x.host, x.epoch, max x.til (t.now + ttl)⟩
def renewP (t : Tv) (key host epoch ttl : Int) : Tv × Int :=
  bif okT t && ttlB ttl then (bif heldB t.l key then (bif (getL t.l key).host != host || (getL t.l key).epoch != epoch then (zT, 61) else (⟨t.last, t.now, setK t.l key (longer t ttl)⟩, 0)) else (zT, 4)) else (zT, 1)
def revokeP (t : Tv) (key : Int) : Tv × Int :=
  bif okT t then (bif heldB t.l key then (⟨t.last, t.now, butK t.l key⟩, 0) else (zT, 4)) else (zT, 1)
def holdP (t : Tv) (key : Int) : Lv × Bool := bif okT t && heldB t.l key then (getL t.l key, true) else (zL, false)
def ofP (t : Tv) (host : Int) : List Int := bif okT t then (t.l.filter (fun x => x.host == host)).map Lv.key else []
def named (l : List Lv) (keys : List Int) : List Lv := bif keys.isEmpty then l else l.filter (fun x => keys.contains x.key)
def nextP (t : Tv) (keys : List Int) : Int := bif okT t then leastU (named t.l keys) else 0
structure Ov where
  d : Int
  a : Int
  b : Int
  c : Int
  e : Int
def bodyP (t : Tv) (o : Ov) : Tv × List Lv × Int :=
  bif o.d == 0 then tickP t o.a
  else bif o.d == 1 then ((grantP t o.a o.b o.c).1, [(grantP t o.a o.b o.c).2.1], (grantP t o.a o.b o.c).2.2)
  else bif o.d == 2 then ((renewP t o.a o.b o.e o.c).1, [], (renewP t o.a o.b o.e o.c).2)
  else bif o.d == 3 then ((revokeP t o.a).1, [], (revokeP t o.a).2)
  else (t, bif (holdP t o.a).2 then [(holdP t o.a).1] else [], 0)
end Lea
end Go.Proofs.YtcpkgcckjphbfaaGreat
/-
  lease IN PLAIN: a table that may be stays one, call by call.
-/
namespace Go.Proofs.YtcpkgcckjphbfaaGreat
open Go.RowKit Mem
namespace Lea
theorem split_at {l : List Lv} {key : Int} (hr : Rises l) (hh : heldB l key = false) : below_ l key ++ above_ l key = l := by
  induction l with
  | nil => rfl
  | cons x r ih =>
    have h1 : Rises r := (List.pairwise_cons.1 hr).2
    have h2 : heldB r key = false := held_false.2 (fun y hy => held_false.1 hh y (List.mem_cons_of_mem _ hy))
    have h3 : x.key ≠ key := held_false.1 hh x (by simp)
    have h4 := ih h1 h2
    unfold below_ above_ at h4 ⊢
    by_cases h5 : x.key < key
    · rw [List.filter_cons_of_pos (by simpa using h5), List.filter_cons_of_neg (by simp; omega), List.cons_append, h4]
    · have h6 : ∀ y ∈ r, key < y.key := fun y hy => by have := (List.pairwise_cons.1 hr).1 y hy; omega
      rw [List.filter_cons_of_neg (by simpa using h5), List.filter_cons_of_pos (by simp; omega), List.filter_eq_nil_iff.2 (fun y hy => by have := h6 y hy; simp; omega), List.filter_eq_self.2 (fun y hy => by have := h6 y hy; simpa using this), List.nil_append]
theorem putL_perm {l : List Lv} {key : Int} (x : Lv) (hr : Rises l) (hh : heldB l key = false) : (putL l key x).Perm (x :: l) := by
  unfold putL
  rw [List.append_assoc, List.singleton_append]
  refine List.perm_middle.trans ?_
  rw [split_at hr hh]
theorem putL_mem {l : List Lv} {key : Int} {x y : Lv} (hr : Rises l) (hh : heldB l key = false) : y ∈ putL l key x ↔ y = x ∨ y ∈ l := by
  rw [(putL_perm x hr hh).mem_iff, List.mem_cons]
theorem putL_len {l : List Lv} {key : Int} {x : Lv} (hr : Rises l) (hh : heldB l key = false) : (putL l key x).length = l.length + 1 := by
  rw [(putL_perm x hr hh).length_eq, List.length_cons]
theorem putL_rises {l : List Lv} {key : Int} {x : Lv} (hr : Rises l) (hx : x.key = key) : Rises (putL l key x) := by
  unfold putL below_ above_ Rises
  rw [List.pairwise_append, List.pairwise_append]
  refine ⟨⟨List.Pairwise.filter _ hr, by simp, ?_⟩, List.Pairwise.filter _ hr, ?_⟩
  · intro a ha b hb
    simp only [List.mem_filter, decide_eq_true_eq] at ha
    simp only [List.mem_singleton] at hb
    subst hb
    omega
  · intro a ha b hb
    simp only [List.mem_filter, decide_eq_true_eq] at hb
    simp only [List.mem_append, List.mem_filter, decide_eq_true_eq, List.mem_singleton] at ha
    rcases ha with ha | ha
    · omega
    · subst ha; omega
theorem putL_differ {l : List Lv} {key : Int} {x : Lv} (hr : Rises l) (hh : heldB l key = false) (hd : Differ l) (hx : ∀ y ∈ l, y.epoch ≠ x.epoch) : Differ (putL l key x) := by
  unfold Differ
  have hp := (putL_perm x hr hh).map Lv.epoch
  unfold List.Nodup
  rw [hp.pairwise_iff (fun h => Ne.symm h), List.map_cons, List.pairwise_cons]
  refine ⟨fun a ha => ?_, hd⟩
  obtain ⟨y, hy, rfl⟩ := List.mem_map.1 ha
  exact Ne.symm (hx y hy)
theorem butK_put {l : List Lv} {key : Int} {x : Lv} (hr : Rises l) (hh : heldB l key = false) (hx : x.key = key) : butK (putL l key x) key = l := by
  unfold butK putL
  rw [List.filter_append, List.filter_append]
  have h1 : (below_ l key).filter (fun x => !(x.key == key)) = below_ l key := by
    rw [List.filter_eq_self]; intro y hy; unfold below_ at hy; simp only [List.mem_filter, decide_eq_true_eq] at hy; simp; omega
  have h2 : (above_ l key).filter (fun x => !(x.key == key)) = above_ l key := by
    rw [List.filter_eq_self]; intro y hy; unfold above_ at hy; simp only [List.mem_filter, decide_eq_true_eq] at hy; simp; omega
  rw [h1, h2, List.filter_cons_of_neg (by simp [hx]), List.filter_nil, List.append_nil, split_at hr hh]
theorem find_put_other {l : List Lv} {a key : Int} {x : Lv} (hr : Rises l) (hh : heldB l a = false) (hx : x.key = a) (hne : a ≠ key) : findL (putL l a x) key = findL l key := by
  have h0 : findL l key = findL (below_ l a ++ above_ l a) key := by rw [split_at hr hh]
  rw [h0]
  unfold findL putL
  have : (x.key == key) = false := by rw [hx]; simpa using hne
  rw [List.find?_append, List.find?_append, List.find?_append, List.find?_cons, this, List.find?_nil]
  simp
theorem find_but_other {l : List Lv} {a key : Int} (hne : a ≠ key) : findL (butK l a) key = findL l key := by
  unfold findL butK
  rw [List.find?_filter]
  congr 1
  funext x
  by_cases h : x.key = key
  · simp [h, Ne.symm hne]
  · have : (x.key == key) = false := by simpa using h
    simp [this]
theorem find_but {l : List Lv} {key : Int} : heldB (butK l key) key = false := by
  rw [held_false]
  intro x hx
  unfold butK at hx
  simp only [List.mem_filter] at hx
  simpa using hx.2
theorem find_set {l : List Lv} {a key : Int} {f : Lv → Lv} (hf : ∀ x, (f x).key = x.key) : findL (setK l a f) key = (findL l key).map (fun x => bif x.key == a then f x else x) := by
  unfold findL setK
  rw [List.find?_map]
  congr 1
  congr 1
  funext x
  simp only [Function.comp]
  rcases x.key == a
  · rfl
  · simp [hf]
theorem find_set_other {l : List Lv} {a key : Int} {f : Lv → Lv} (hf : ∀ x, (f x).key = x.key) (hne : a ≠ key) : findL (setK l a f) key = findL l key := by
  rw [find_set hf]
  rcases e : findL l key with _ | x
  · rfl
  · have h1 := (find_some e).2
    have : (x.key == a) = false := by rw [h1]; simpa using Ne.symm hne
    simp [this]

/-! ### What may be stays so -/
theorem mayB_of {last now last' now' : Int} {x : Lv} (h : mayB last now x = true) (h1 : last ≤ last') (h2 : now' < x.til) : mayB last' now' x = true := by
  rw [mayB_iff] at h ⊢
  omega
theorem okT_grant {t : Tv} {key host ttl : Int} (hg : grantOk t key host ttl = true) (hh : heldB t.l key = false) : okT ⟨t.last + 1, t.now, putL t.l key (newL t key host ttl)⟩ = true := by
  unfold grantOk at hg
  simp only [Bool.and_eq_true, Bool.not_eq_true', decide_eq_false_iff_not] at hg
  obtain ⟨hok, hk, hho, hto⟩ := hg
  have hm := fun x hx => okT_may hok (x := x) hx
  obtain ⟨h1, h2, h3, h4, h5⟩ := okT_iff.1 hok
  refine okT_iff.2 ⟨by show (0 : Int) ≤ t.last + 1; omega, h2, putL_rises h3 rfl, putL_differ h3 hh h4 ?_, ?_⟩
  · intro y hy
    have := mayB_iff.1 (hm y hy)
    show y.epoch ≠ t.last + 1
    omega
  · intro y hy
    rcases (putL_mem h3 hh).1 hy with rfl | hy
    · refine mayB_iff.2 ?_
      unfold hostB at hho
      unfold ttlB at hto
      simp only [Bool.and_eq_true, decide_eq_true_eq] at hho hto
      show 0 ≤ key ∧ (0 ≤ host ∧ host < 8) ∧ 1 ≤ t.last + 1 ∧ t.last + 1 ≤ t.last + 1 ∧ t.now < t.now + ttl
      omega
    · have := mayB_iff.1 (hm y hy)
      exact mayB_of (hm y hy) (by show t.last ≤ t.last + 1; omega) (by show t.now < _; omega)
theorem okT_tick {t : Tv} {now : Int} (hok : okT t = true) (hn : t.now ≤ now) : okT ⟨t.last, now, t.l.filter (fun x => !decide (x.til ≤ now))⟩ = true := by
  obtain ⟨h1, h2, h3, h4, h5⟩ := okT_iff.1 hok
  refine okT_iff.2 ⟨h1, by show 0 ≤ now; omega, List.Pairwise.filter _ h3, List.Pairwise.sublist (List.Sublist.map _ List.filter_sublist) h4, ?_⟩
  intro x hx
  simp only [List.mem_filter, Bool.not_eq_true', decide_eq_false_iff_not] at hx
  exact mayB_of (h5 x hx.1) (Int.le_refl _) (by show now < _; omega)
theorem okT_but {t : Tv} {key : Int} (hok : okT t = true) : okT ⟨t.last, t.now, butK t.l key⟩ = true := by
  obtain ⟨h1, h2, h3, h4, h5⟩ := okT_iff.1 hok
  refine okT_iff.2 ⟨h1, h2, List.Pairwise.filter _ h3, List.Pairwise.sublist (List.Sublist.map _ List.filter_sublist) h4, ?_⟩
  intro x hx
  exact h5 x (List.mem_filter.1 (show x ∈ List.filter _ t.l from hx)).1
theorem okT_set {t : Tv} {key ttl : Int} (hok : okT t = true) : okT ⟨t.last, t.now, setK t.l key (longer t ttl)⟩ = true := by
  obtain ⟨h1, h2, h3, h4, h5⟩ := okT_iff.1 hok
  refine okT_iff.2 ⟨h1, h2, ?_, ?_, ?_⟩
  · unfold Rises setK
    rw [List.pairwise_map]
    refine List.Pairwise.imp ?_ h3
    intro a b hab
    rcases e1 : (a.key == key) <;> rcases e2 : (b.key == key) <;> simpa [longer] using hab
  · unfold Differ setK at *
    rw [List.map_map]
    have : (Lv.epoch ∘ fun x => bif x.key == key then longer t ttl x else x) = Lv.epoch := by
      funext x
      simp only [Function.comp]
      rcases x.key == key <;> rfl
    rw [this]
    exact h4
  · intro y hy
    unfold setK at hy
    obtain ⟨x, hx, rfl⟩ := List.mem_map.1 hy
    have h6 := mayB_iff.1 (h5 x hx)
    refine mayB_iff.2 ?_
    rcases x.key == key
    · exact h6
    · show 0 ≤ x.key ∧ (0 ≤ x.host ∧ x.host < 8) ∧ 1 ≤ x.epoch ∧ x.epoch ≤ t.last ∧ t.now < max x.til (t.now + ttl)
      omega
theorem okT_more {t : Tv} {last : Int} (hok : okT t = true) (h : t.last ≤ last) : okT ⟨last, t.now, t.l⟩ = true := by
  obtain ⟨h1, h2, h3, h4, h5⟩ := okT_iff.1 hok
  refine okT_iff.2 ⟨by show 0 ≤ last; omega, h2, h3, h4, ?_⟩
  intro x hx
  have h6 := mayB_iff.1 (h5 x hx)
  exact mayB_of (h5 x hx) h (by show t.now < _; omega)

/-! ### What is done, by its error -/
theorem tick_cases (t : Tv) (now : Int) : (okT t = true ∧ t.now ≤ now ∧ tickP t now = (⟨t.last, now, t.l.filter (fun x => !decide (x.til ≤ now))⟩, t.l.filter (fun x => decide (x.til ≤ now)), 0)) ∨ tickP t now = (zT, [], 1) := by
  unfold tickP
  rcases e : okT t && !decide (now < t.now)
  · exact .inr rfl
  · simp only [Bool.and_eq_true, Bool.not_eq_true', decide_eq_false_iff_not] at e
    exact .inl ⟨e.1, by omega, rfl⟩
theorem grant_cases (t : Tv) (key host ttl : Int) : (grantOk t key host ttl = true ∧ heldB t.l key = false ∧ grantP t key host ttl = (⟨t.last + 1, t.now, putL t.l key (newL t key host ttl)⟩, newL t key host ttl, 0)) ∨ ∃ er, er ≠ 0 ∧ grantP t key host ttl = (zT, zL, er) := by
  unfold grantP
  rcases e : grantOk t key host ttl
  · exact .inr ⟨1, by omega, rfl⟩
  · rcases e2 : heldB t.l key
    · exact .inl ⟨rfl, rfl, rfl⟩
    · exact .inr ⟨60, by omega, rfl⟩
theorem renew_cases (t : Tv) (key host epoch ttl : Int) : (okT t = true ∧ renewP t key host epoch ttl = (⟨t.last, t.now, setK t.l key (longer t ttl)⟩, 0)) ∨ ∃ er, er ≠ 0 ∧ renewP t key host epoch ttl = (zT, er) := by
  unfold renewP
  rcases e : okT t
  · exact .inr ⟨1, by omega, by simp⟩
  · rcases e1 : ttlB ttl
    · exact .inr ⟨1, by omega, by simp⟩
    · rcases e2 : heldB t.l key
      · exact .inr ⟨4, by omega, by simp⟩
      · rcases e3 : ((getL t.l key).host != host || (getL t.l key).epoch != epoch)
        · exact .inl ⟨rfl, by simp⟩
        · exact .inr ⟨61, by omega, by simp⟩
theorem revoke_cases (t : Tv) (key : Int) : (okT t = true ∧ revokeP t key = (⟨t.last, t.now, butK t.l key⟩, 0)) ∨ ∃ er, er ≠ 0 ∧ revokeP t key = (zT, er) := by
  unfold revokeP
  rcases e : okT t
  · exact .inr ⟨1, by omega, by simp⟩
  · rcases e2 : heldB t.l key
    · exact .inr ⟨4, by omega, by simp⟩
    · exact .inl ⟨rfl, by simp⟩
theorem grantOk_ok {t : Tv} {key host ttl : Int} (hg : grantOk t key host ttl = true) : okT t = true := by
  unfold grantOk at hg
  simp only [Bool.and_eq_true] at hg
  exact hg.1
end Lea
end Go.Proofs.YtcpkgcckjphbfaaGreat
