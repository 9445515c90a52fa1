/-
  A CACHE IN MEMORY: what is kept of a block, all of it hung together, the one asked for last first.
-/
import Derived.Test.YtfngebikihdogaaGMap
import Derived.Test.YtfngebikihdogaaReg
import Derived.LoopTactic
import Derived.Deep.LoopGhost
import Derived.Deep.DeepCutAuto
import Derived.Lib.LazyBuf
import Derived.Lib.AppendZeros
import Derived.BigQuiet
import Derived.Deep.MidRow
import Derived.WalkSmall
namespace Go.Proofs.Ytfngebikihdogaa
open Go.RowKit Mem Box GM
namespace Cac

theorem run_max2 (ts : Array TypeId) (t : TypeId) (x y : Int) (w : World) : (Builtin.max_ ts t #[.int .i64 x, .int .i64 y]).run Try.prog w = .ok (.int .i64 (max x y)) w := by
  have e : (Builtin.max_ ts t #[.int .i64 x, .int .i64 y]).run Try.prog w = .ok (.int .i64 (if y > x then y else x)) w := by
    simp [Builtin.max_, Builtin.max2, List.foldlM]
  rw [e]
  congr 2
  split <;> omega
theorem run_min2 (ts : Array TypeId) (t : TypeId) (x y : Int) (w : World) : (Builtin.min_ ts t #[.int .i64 x, .int .i64 y]).run Try.prog w = .ok (.int .i64 (min x y)) w := by
  have e : (Builtin.min_ ts t #[.int .i64 x, .int .i64 y]).run Try.prog w = .ok (.int .i64 (if y < x then y else x)) w := by
    simp [Builtin.min_, Builtin.min2, List.foldlM]
  rw [e]
  congr 2
  split <;> omega
/-- What is kept of a block. -/
structure Kv where
  lba : Int
  ver : Int
  txt : List (BitVec 8)
/-- Where it lies, and what it is. -/
abbrev Nd := Nat × Kv
/-- A pointer to a block's beginning, or none. -/
def ptr (o : Option Nat) : Value := .pointer (o.map fun p => ⟨p, 0, none⟩)
/-- The first one's block; the last one's. -/
def hd : List Nd → Option Nat → Option Nat
  | [], d => d
  | x :: _, _ => some x.1
def lst : List Nd → Option Nat → Option Nat
  | [], d => d
  | x :: r, _ => lst r (some x.1)
theorem hd_append (a b : List Nd) (d : Option Nat) : hd (a ++ b) d = hd a (hd b d) := by cases a <;> rfl
theorem lst_append (a b : List Nd) (d : Option Nat) : lst (a ++ b) d = lst b (lst a d) := by
  induction a generalizing d with
  | nil => rfl
  | cons x a ih => exact ih _
theorem lst_snoc (a : List Nd) (q : Nd) (d : Option Nat) : lst (a ++ [q]) d = some q.1 := by rw [lst_append]; rfl
abbrev blk (ns : List Nd) : List Nat := ns.map (·.1)

/-- One that is kept, its neighbours nw and od. -/
def Node (w : World) (p : Nat) (x : Kv) (nw od : Option Nat) : Prop := ∃ cs, Cells w p 61 cs ∧ cs.size = 20 ∧ cs[0]? = some (.int .i64 x.lba) ∧ cs[1]? = some (.int .i64 x.ver) ∧ x.txt.length = 16 ∧ (∀ i y, x.txt[i]? = some y → cs[2 + i]? = some (cb y)) ∧ cs[18]? = some (ptr nw) ∧ cs[19]? = some (ptr od)
section
variable {w w' : World} {p : Nat} {x : Kv} {nw od : Option Nat}
theorem Node.lt (h : Node w p x nw od) : p < w.heap.size := by obtain ⟨cs, hc, -⟩ := h; exact hc.lt
theorem Node.keep (h : Node w p x nw od) (hb : w'.heap[p]? = w.heap[p]?) : Node w' p x nw od := by
  obtain ⟨cs, hc, h⟩ := h
  exact ⟨cs, hb.trans hc, h⟩
theorem Node.cells (h : Node w p x nw od) : w.cell? ⟨p, 0, none⟩ = some (.int .i64 x.lba) ∧ w.cell? ⟨p, 1, none⟩ = some (.int .i64 x.ver) ∧ w.cell? ⟨p, 18, none⟩ = some (ptr nw) ∧ w.cell? ⟨p, 19, none⟩ = some (ptr od) := by
  obtain ⟨cs, hc, hs, c0, c1, hl, ht, c18, c19⟩ := h
  exact ⟨(hc.cell 0).trans c0, (hc.cell 1).trans c1, (hc.cell 18).trans c18, (hc.cell 19).trans c19⟩
theorem Node.frozen (h : Node w p x nw od) : w.frozen? ⟨p, 18, none⟩ = false ∧ w.frozen? ⟨p, 19, none⟩ = false := by
  obtain ⟨cs, hc, -⟩ := h
  exact ⟨hc.frozen 18, hc.frozen 19⟩
theorem Node.text (h : Node w p x nw od) : Row cb w (some ⟨p, 2, none⟩) 16 16 x.txt := by
  obtain ⟨cs, hc, hs, c0, c1, hl, ht, -⟩ := h
  exact ⟨hl, by omega, by omega, fun _ => ⟨p, 2, rfl, hc.lt, fun i y hy => (hc.cell (2 + i)).trans (ht i y hy)⟩⟩
theorem Node.set18 (h : Node w p x nw od) (n' : Option Nat) : Node (w.setCell ⟨p, 18, none⟩ (ptr n')) p x n' od := by
  obtain ⟨cs, hc, hs, c0, c1, hl, ht, c18, c19⟩ := h
  refine ⟨_, hc.set_ 18 _, by simp [hs], ?_, ?_, hl, fun i y hy => ?_, ?_, ?_⟩
  · rw [Array.getElem?_setIfInBounds, if_neg (by omega)]; exact c0
  · rw [Array.getElem?_setIfInBounds, if_neg (by omega)]; exact c1
  · have : i < x.txt.length := (List.getElem?_eq_some_iff.1 hy).1
    rw [Array.getElem?_setIfInBounds, if_neg (by omega)]; exact ht i y hy
  · rw [Array.getElem?_setIfInBounds, if_pos rfl, if_pos (by omega)]
  · rw [Array.getElem?_setIfInBounds, if_neg (by omega)]; exact c19
theorem Node.set19 (h : Node w p x nw od) (n' : Option Nat) : Node (w.setCell ⟨p, 19, none⟩ (ptr n')) p x nw n' := by
  obtain ⟨cs, hc, hs, c0, c1, hl, ht, c18, c19⟩ := h
  refine ⟨_, hc.set_ 19 _, by simp [hs], ?_, ?_, hl, fun i y hy => ?_, ?_, ?_⟩
  · rw [Array.getElem?_setIfInBounds, if_neg (by omega)]; exact c0
  · rw [Array.getElem?_setIfInBounds, if_neg (by omega)]; exact c1
  · have : i < x.txt.length := (List.getElem?_eq_some_iff.1 hy).1
    rw [Array.getElem?_setIfInBounds, if_neg (by omega)]; exact ht i y hy
  · rw [Array.getElem?_setIfInBounds, if_neg (by omega)]; exact c18
  · rw [Array.getElem?_setIfInBounds, if_pos rfl, if_pos (by omega)]
theorem Node.other {q : Nat} (h : Node w p x nw od) (hq : q ≠ p) (i : Nat) (v : Value) : Node (w.setCell ⟨q, i, none⟩ v) p x nw od := h.keep (Below.heap_setCell _ _ _ _ (Ne.symm hq))
end
/-- Some that hang together: ahead of them prev, behind them nxt. -/
def Seg (w : World) (prev : Option Nat) : List Nd → Option Nat → Prop
  | [], _ => True
  | x :: r, nxt => Node w x.1 x.2 prev (hd r nxt) ∧ Seg w (some x.1) r nxt
section
variable {w w' : World} {prev nxt : Option Nat} {ns a b : List Nd}
theorem Seg.keep (h : Seg w prev ns nxt) (hb : ∀ p ∈ blk ns, w'.heap[p]? = w.heap[p]?) : Seg w' prev ns nxt := by
  induction ns generalizing prev with
  | nil => trivial
  | cons x r ih => exact ⟨h.1.keep (hb _ (by simp)), ih h.2 fun p hp => hb p (by simp only [blk, List.map_cons, List.mem_cons]; exact .inr hp)⟩
theorem Seg.lt (h : Seg w prev ns nxt) : ∀ p ∈ blk ns, p < w.heap.size := by
  induction ns generalizing prev with
  | nil => intro p hp; cases hp
  | cons x r ih =>
    intro p hp
    rcases List.mem_cons.1 hp with rfl | hp
    · exact h.1.lt
    · exact ih h.2 p hp
theorem seg_append : Seg w prev (a ++ b) nxt ↔ Seg w prev a (hd b nxt) ∧ Seg w (lst a prev) b nxt := by
  induction a generalizing prev with
  | nil => exact ⟨fun h => ⟨trivial, h⟩, fun h => h.2⟩
  | cons x r ih =>
    show (Node w x.1 x.2 prev (hd (r ++ b) nxt) ∧ Seg w (some x.1) (r ++ b) nxt) ↔ ((Node w x.1 x.2 prev (hd r (hd b nxt)) ∧ Seg w (some x.1) r (hd b nxt)) ∧ Seg w (lst r (some x.1)) b nxt)
    rw [hd_append, ih, and_assoc]
theorem Seg.other {q : Nat} (h : Seg w prev ns nxt) (hq : q ∉ blk ns) (i : Nat) (v : Value) : Seg (w.setCell ⟨q, i, none⟩ v) prev ns nxt :=
  h.keep fun _ hp => Below.heap_setCell _ _ _ _ (fun e => hq (by rw [← show _ = q from e]; exact hp))
theorem Seg.last {q : Nd} {n1 : Option Nat} (h : Seg w prev (a ++ [q]) n1) (hn : (blk (a ++ [q])).Nodup) (n2 : Option Nat) : Seg (w.setCell ⟨q.1, 19, none⟩ (ptr n2)) prev (a ++ [q]) n2 := by
  obtain ⟨h1, h2⟩ := seg_append.1 h
  refine seg_append.2 ⟨?_, h2.1.set19 n2, trivial⟩
  refine h1.other (fun hq => ?_) 19 _
  simp only [blk, List.map_append, List.map_cons, List.map_nil] at hn
  exact (List.nodup_append.1 hn).2.2 q.1 hq q.1 (by simp) rfl
theorem Seg.first {q : Nd} {p1 : Option Nat} (h : Seg w p1 (q :: b) nxt) (hn : (blk (q :: b)).Nodup) (p2 : Option Nat) : Seg (w.setCell ⟨q.1, 18, none⟩ (ptr p2)) p2 (q :: b) nxt :=
  ⟨h.1.set18 p2, h.2.other (List.nodup_cons.1 hn).1 18 _⟩
theorem Seg.node {p : Nat} {x : Kv} (h : Seg w prev (a ++ (p, x) :: b) nxt) : Node w p x (lst a prev) (hd b nxt) := (seg_append.1 h).2.1
end
/-- The cache's own cells. -/
abbrev headC (r : Nat) (m : Int) (nw od : Option Nat) (h s : Int) : Array Value := #[.int .i64 m, .map (some r), ptr nw, ptr od, .int .i64 h, .int .i64 s]
abbrev Head (w : World) (g r : Nat) (m : Int) (nw od : Option Nat) (h s : Int) : Prop := Cells w g 57 (headC r m nw od h s)
section
variable {w w' : World} {g r : Nat} {m h s : Int} {nw od : Option Nat}
theorem Head.cells (H : Head w g r m nw od h s) : w.cell? ⟨g, 0, none⟩ = some (.int .i64 m) ∧ w.cell? ⟨g, 1, none⟩ = some (.map (some r)) ∧ w.cell? ⟨g, 2, none⟩ = some (ptr nw) ∧ w.cell? ⟨g, 3, none⟩ = some (ptr od) ∧ w.cell? ⟨g, 4, none⟩ = some (.int .i64 h) ∧ w.cell? ⟨g, 5, none⟩ = some (.int .i64 s) :=
  ⟨Cells.cell H 0, Cells.cell H 1, Cells.cell H 2, Cells.cell H 3, Cells.cell H 4, Cells.cell H 5⟩
theorem Head.frozen (H : Head w g r m nw od h s) (i : Nat) : w.frozen? ⟨g, i, none⟩ = false := Cells.frozen H i
theorem Head.set2 (H : Head w g r m nw od h s) (n' : Option Nat) : Head (w.setCell ⟨g, 2, none⟩ (ptr n')) g r m n' od h s := Cells.set_ H 2 _
theorem Head.set3 (H : Head w g r m nw od h s) (n' : Option Nat) : Head (w.setCell ⟨g, 3, none⟩ (ptr n')) g r m nw n' h s := Cells.set_ H 3 _
theorem Head.set4 (H : Head w g r m nw od h s) (n' : Int) : Head (w.setCell ⟨g, 4, none⟩ (.int .i64 n')) g r m nw od n' s := Cells.set_ H 4 _
theorem Head.set5 (H : Head w g r m nw od h s) (n' : Int) : Head (w.setCell ⟨g, 5, none⟩ (.int .i64 n')) g r m nw od h n' := Cells.set_ H 5 _
theorem Head.ne_node {p : Nat} {x : Kv} {a b : Option Nat} (H : Head w g r m nw od h s) (hp : Node w p x a b) : g ≠ p := by
  obtain ⟨cs, hc, -⟩ := hp
  exact Cells.ne H hc (by decide)
theorem Head.ne_seg {ns : List Nd} {a b : Option Nat} (H : Head w g r m nw od h s) (hp : Seg w a ns b) : g ∉ blk ns := by
  induction ns generalizing a with
  | nil => intro h; cases h
  | cons x l ih =>
    intro hm
    rcases List.mem_cons.1 hm with e | hm
    · exact H.ne_node hp.1 e
    · exact ih hp.2 hm
end
/-- All that hangs together. -/
structure DL (w : World) (g r : Nat) (m : Int) (ns : List Nd) (h s : Int) : Prop where
  head : Head w g r m (hd ns none) (lst ns none) h s
  seg : Seg w none ns none
  nod : (blk ns).Nodup
section
variable {w w' : World} {g r : Nat} {m h s : Int} {ns a b : List Nd}
theorem DL.keep (H : DL w g r m ns h s) (hb : ∀ p ∈ g :: blk ns, w'.heap[p]? = w.heap[p]?) : DL w' g r m ns h s :=
  ⟨(hb g List.mem_cons_self).trans H.head, H.seg.keep fun p hp => hb p (List.mem_cons_of_mem _ hp), H.nod⟩
theorem DL.lt (H : DL w g r m ns h s) : ∀ p ∈ g :: blk ns, p < w.heap.size := fun p hp => by
  rcases List.mem_cons.1 hp with rfl | hp
  · exact Cells.lt H.head
  · exact H.seg.lt p hp
theorem DL.below (H : DL w g r m ns h s) (hb : Below w.heap.size w w') : DL w' g r m ns h s := H.keep fun p hp => hb.block p (H.lt p hp)
/-- One is being taken out: those ahead of it are told. -/
structure Mid (w : World) (g r : Nat) (m : Int) (a : List Nd) (p : Nat) (x : Kv) (b : List Nd) (h s : Int) : Prop where
  head : Head w g r m (hd (a ++ b) none) (lst (a ++ (p, x) :: b) none) h s
  ahead : Seg w none a (hd b none)
  one : Node w p x (lst a none) (hd b none)
  behind : Seg w (some p) b none
theorem nodup_parts {p : Nat} {x : Kv} (hn : (blk (a ++ (p, x) :: b)).Nodup) : (blk a).Nodup ∧ (blk b).Nodup ∧ p ∉ blk a ∧ p ∉ blk b ∧ (∀ q ∈ blk a, q ∉ blk b) ∧ (blk (a ++ b)).Nodup := by
  simp only [blk, List.map_append, List.map_cons] at hn ⊢
  obtain ⟨h1, h2, h3⟩ := List.nodup_append.1 hn
  obtain ⟨h4, h5⟩ := List.nodup_cons.1 h2
  refine ⟨h1, h5, fun hp => h3 p hp p (by simp) rfl, h4, fun q hq hb => h3 q hq q (List.mem_cons_of_mem _ hb) rfl, List.nodup_append.2 ⟨h1, h5, fun u hu v hv => h3 u hu v (List.mem_cons_of_mem _ hv)⟩⟩
theorem mid_nil {p : Nat} {x : Kv} (H : DL w g r m ((p, x) :: b) h s) : Mid (w.setCell ⟨g, 2, none⟩ (ptr (hd b none))) g r m [] p x b h s := by
  have hg := H.head.ne_seg H.seg
  refine ⟨H.head.set2 _, trivial, H.seg.1.other (fun e => hg (by rw [e]; exact List.mem_cons_self)) 2 _, H.seg.2.other (fun e => hg (List.mem_cons_of_mem _ e)) 2 _⟩
theorem mid_snoc {q : Nd} {p : Nat} {x : Kv} (H : DL w g r m ((a ++ [q]) ++ (p, x) :: b) h s) : Mid (w.setCell ⟨q.1, 19, none⟩ (ptr (hd b none))) g r m (a ++ [q]) p x b h s := by
  have hg := H.head.ne_seg H.seg
  obtain ⟨n1, n2, n3, n4, n5, -⟩ := nodup_parts H.nod
  obtain ⟨h1, h2⟩ := seg_append.1 H.seg
  have hq : q.1 ∈ blk (a ++ [q]) := by simp [blk]
  refine ⟨?_, Seg.last h1 n1 _, h2.1.other (fun e => n3 (by rw [← show q.1 = p from e]; exact hq)) 19 _, h2.2.other (n5 q.1 hq) 19 _⟩
  have h0 := Cells.set_other (g' := q.1) H.head (fun e => hg (by rw [← e]; simp only [blk, List.map_append, List.mem_append] at hq ⊢; exact .inl hq)) 19 (ptr (hd b none))
  have e1 : hd ((a ++ [q]) ++ (p, x) :: b) none = hd ((a ++ [q]) ++ b) none := by
    cases a <;> rfl
  rw [e1] at h0
  exact h0
theorem Mid.nil {p : Nat} {x : Kv} (H : Mid w g r m a p x [] h s) (hn : (blk (a ++ [(p, x)])).Nodup) : DL (w.setCell ⟨g, 3, none⟩ (ptr (lst a none))) g r m a h s ∧ Node (w.setCell ⟨g, 3, none⟩ (ptr (lst a none))) p x (lst a none) none := by
  obtain ⟨n1, n2, n3, n4, n5, n6⟩ := nodup_parts hn
  have h0 := H.head.set3 (lst a none)
  rw [List.append_nil] at h0
  exact ⟨⟨h0, H.ahead.other (H.head.ne_seg H.ahead) 3 _, n1⟩, H.one.other (H.head.ne_node H.one) 3 _⟩
theorem Mid.cons {q : Nd} {p : Nat} {x : Kv} (H : Mid w g r m a p x (q :: b) h s) (hn : (blk (a ++ (p, x) :: q :: b)).Nodup) : DL (w.setCell ⟨q.1, 18, none⟩ (ptr (lst a none))) g r m (a ++ q :: b) h s ∧ Node (w.setCell ⟨q.1, 18, none⟩ (ptr (lst a none))) p x (lst a none) (some q.1) := by
  obtain ⟨n1, n2, n3, n4, n5, n6⟩ := nodup_parts hn
  have hq : q.1 ∈ blk (q :: b) := by simp [blk]
  refine ⟨⟨?_, seg_append.2 ⟨H.ahead.other (fun e => n5 q.1 e hq) 18 _, Seg.first H.behind n2 _⟩, n6⟩, H.one.other (fun e => n4 (e ▸ hq)) 18 _⟩
  have h0 := Cells.set_other (g' := q.1) H.head (fun e => H.head.ne_seg H.behind (by rw [← e]; exact hq)) 18 (ptr (lst a none))
  have e1 : lst (a ++ (p, x) :: q :: b) none = lst (a ++ q :: b) none := by
    rw [lst_append, lst_append]; rfl
  rw [e1] at h0
  exact h0
end
/-- The one that is kept for block n. -/
def who (ns : List Nd) (n : Int) : Option Nd := ns.find? (fun y => y.2.lba == n)
abbrev lbas (ns : List Nd) : List Int := ns.map (·.2.lba)
theorem who_some {ns : List Nd} {n : Int} {y : Nd} (h : who ns n = some y) : y ∈ ns ∧ y.2.lba = n := ⟨List.mem_of_find?_eq_some h, by have := List.find?_some h; simpa using this⟩
theorem who_none {ns : List Nd} {n : Int} : who ns n = none ↔ n ∉ lbas ns := by
  unfold who
  rw [List.find?_eq_none]
  constructor
  · intro h hm
    obtain ⟨y, hy, e⟩ := List.mem_map.1 hm
    exact h y hy (by simpa using e)
  · intro h y hy e
    exact h (List.mem_map.2 ⟨y, hy, by simpa using e⟩)
theorem who_cons (x : Nd) (ns : List Nd) (n : Int) : who (x :: ns) n = if x.2.lba = n then some x else who ns n := by
  unfold who
  rw [List.find?_cons]
  by_cases h : x.2.lba = n
  · rw [if_pos h, show (x.2.lba == n) = true by simpa using h]
  · rw [if_neg h, show (x.2.lba == n) = false by simpa using h]
theorem who_append (a b : List Nd) (n : Int) : who (a ++ b) n = (who a n).or (who b n) := by
  unfold who
  rw [List.find?_append]
theorem lbas_parts {a b : List Nd} {y : Nd} (hn : (lbas (a ++ y :: b)).Nodup) : y.2.lba ∉ lbas a ∧ y.2.lba ∉ lbas b ∧ (lbas (a ++ b)).Nodup := by
  simp only [lbas, List.map_append, List.map_cons] at hn ⊢
  obtain ⟨h1, h2, h3⟩ := List.nodup_append.1 hn
  obtain ⟨h4, h5⟩ := List.nodup_cons.1 h2
  exact ⟨fun hp => h3 _ hp _ List.mem_cons_self rfl, h4, List.nodup_append.2 ⟨h1, h5, fun u hu v hv => h3 u hu v (List.mem_cons_of_mem _ hv)⟩⟩
theorem who_mid {a b : List Nd} {y : Nd} (hn : (lbas (a ++ y :: b)).Nodup) : who (a ++ y :: b) y.2.lba = some y := by
  rw [who_append, who_none.2 (lbas_parts hn).1, who_cons, if_pos rfl]; rfl
theorem who_mem {ns : List Nd} {y : Nd} (hn : (lbas ns).Nodup) (h : y ∈ ns) : who ns y.2.lba = some y := by
  obtain ⟨a, b, rfl⟩ := List.append_of_mem h
  exact who_mid hn
theorem who_out {a b : List Nd} {y : Nd} (hn : (lbas (a ++ y :: b)).Nodup) (n : Int) : who (a ++ b) n = if n = y.2.lba then none else who (a ++ y :: b) n := by
  obtain ⟨h1, h2, -⟩ := lbas_parts hn
  by_cases h : n = y.2.lba
  · rw [if_pos h, h, who_none]
    simp only [lbas, List.map_append, List.mem_append]
    exact fun hm => hm.elim h1 h2
  · rw [if_neg h, who_append, who_append, who_cons, if_neg (fun e => h e.symm)]
/-- What is in the map: of each block that is there, where it lies. -/
structure At (w : World) (r : Nat) (ns : List Nd) : Prop where
  at_ : ∃ K : List (Int × Nat), FMap (Value.int .i64) (fun _ => True) (fun p => ptr (some p)) w r K ∧ (∀ n, getB K n = (who ns n).map (·.1)) ∧ K.length = ns.length
section
variable {w w' : World} {g r : Nat} {m h s : Int} {ns a b : List Nd}
theorem At.lt (H : At w r ns) : r < w.heap.size := by obtain ⟨K, h, -⟩ := H.at_; exact h.lt
theorem At.keep (H : At w r ns) (hb : w'.heap[r]? = w.heap[r]?) : At w' r ns := by
  obtain ⟨K, h, h'⟩ := H.at_
  exact ⟨K, h.keep hb, h'⟩
theorem At.ne {g : Nat} {t : TypeId} {cs : Array Value} (H : At w r ns) (hc : Cells w g t cs) : g ≠ r := by
  obtain ⟨K, h, -⟩ := H.at_
  exact h.ne hc
theorem At.not_dl (H : At w r ns) {l : List Nd} (D : DL w g r m l h s) : r ∉ g :: blk l := by
  intro hm
  rcases List.mem_cons.1 hm with e | hm
  · exact H.ne D.head e.symm
  · have : ∀ (l : List Nd) (a b : Option Nat), Seg w a l b → r ∉ blk l := by
      intro l
      induction l with
      | nil => intro _ _ _ h; cases h
      | cons x l ih =>
        intro a b hs hm
        rcases List.mem_cons.1 hm with e | hm
        · obtain ⟨cs, hc, -⟩ := hs.1
          exact H.ne hc e.symm
        · exact ih _ _ hs.2 hm
    exact this l _ _ D.seg hm
theorem ky : Ky Try.prog 3 (Value.int .i64) (fun _ => True) := ky_int Try.underlying3
theorem run_at_get (H : At w r ns) (n : Int) : (Instr.lookup 49 (.map (some r)) (.int .i64 n) false).run Try.prog w = .ok (ptr ((who ns n).map (·.1))) w := by
  obtain ⟨K, h, hg, -⟩ := H.at_
  have hz : (zeroValue 50).run Try.prog w = .ok (.pointer none) w := by
    obtain ⟨i, hi, hz0, hz1, hz2⟩ := info_parts (show (Try.prog.info? 50).map (fun i => (i.zero, i.size, i.bytes)) = some (some (.pointer none), 1, 8) by kernel_rfl)
    simp [zeroValue, typeInfo, hi, hz0]
  have := GM.run_get ky Try.underlying49 h hz (n := n) trivial
  rw [hg] at this
  rw [this]
  cases who ns n <;> rfl
theorem run_at_len (H : At w r ns) (ty : TypeId) : (Builtin.len_ #[49] ty #[.map (some r)]).run Try.prog w = .ok (.int .i64 (ns.length : Int)) w := by
  obtain ⟨K, h, hg, hl⟩ := H.at_
  rw [GM.run_len Try.underlying49 h ty, hl]
theorem run_at_put (H : At w r ns) {p : Nat} {x : Kv} (hn : x.lba ∉ lbas ns) : ∃ w', (Instr.mapUpdate 49 (.map (some r)) (.int .i64 x.lba) (.pointer (some ⟨p, 0, none⟩))).run Try.prog w = .ok () w' ∧ At w' r ((p, x) :: ns) ∧ Mov [r] w w' ∧ w'.heap.size = w.heap.size := by
  obtain ⟨K, h, hg, hl⟩ := H.at_
  obtain ⟨w', h1, h2, h3, h4⟩ := GM.run_put ky Try.underlying49 h (n := x.lba) trivial p
  refine ⟨w', h1, ⟨_, h2, fun n => ?_, ?_⟩, h3, h4⟩
  · rw [get_set, hg, who_cons]
    by_cases e : n = x.lba
    · rw [if_pos e, if_pos e.symm]; rfl
    · rw [if_neg e, if_neg (fun h => e h.symm)]
  · rw [len_set_none (by rw [hg, who_none.2 hn]; rfl), hl, List.length_cons]
theorem run_at_del {y : Nd} (H : At w r (a ++ y :: b)) (hn : (lbas (a ++ y :: b)).Nodup) (ty : TypeId) : ∃ w', (Builtin.delete_ #[49, 3] ty #[.map (some r), .int .i64 y.2.lba]).run Try.prog w = .ok (.tuple #[]) w' ∧ At w' r (a ++ b) ∧ Mov [r] w w' ∧ w'.heap.size = w.heap.size := by
  obtain ⟨K, h, hg, hl⟩ := H.at_
  obtain ⟨w', h1, h2, h3, h4⟩ := GM.run_del ky Try.underlying49 h (n := y.2.lba) trivial ty
  refine ⟨w', h1, ⟨_, h2, fun n => ?_, ?_⟩, h3, h4⟩
  · rw [get_del h.kn, hg, who_out hn]
    split <;> rfl
  · have := len_del_some (ks := K) (n := y.2.lba) (u := y.1) (by rw [hg, who_mid hn]; rfl)
    simp only [List.length_append, List.length_cons] at hl ⊢
    omega
end
/-- A cache in memory. -/
structure CacheAt (w : World) (g r : Nat) (m : Int) (ns : List Nd) (h s : Int) : Prop where
  dl : DL w g r m ns h s
  map : At w r ns
  keys : (lbas ns).Nodup
/-- The blocks that a cache has. -/
abbrev foot (g r : Nat) (ns : List Nd) : List Nat := g :: r :: blk ns
section
variable {w w' : World} {g r : Nat} {m h s : Int} {ns : List Nd}
theorem CacheAt.keep (H : CacheAt w g r m ns h s) (hb : ∀ p ∈ foot g r ns, w'.heap[p]? = w.heap[p]?) : CacheAt w' g r m ns h s :=
  ⟨H.dl.keep fun p hp => hb p (by rcases List.mem_cons.1 hp with rfl | hp <;> simp_all [foot]), H.map.keep (hb r (by simp [foot])), H.keys⟩
theorem CacheAt.lt (H : CacheAt w g r m ns h s) : ∀ p ∈ foot g r ns, p < w.heap.size := fun p hp => by
  rcases List.mem_cons.1 hp with rfl | hp
  · exact H.dl.lt _ List.mem_cons_self
  · rcases List.mem_cons.1 hp with rfl | hp
    · exact H.map.lt
    · exact H.dl.lt p (List.mem_cons_of_mem _ hp)
theorem CacheAt.below (H : CacheAt w g r m ns h s) (hb : Below w.heap.size w w') : CacheAt w' g r m ns h s := H.keep fun p hp => hb.block p (H.lt p hp)
theorem CacheAt.mov {S : List Nat} (H : CacheAt w g r m ns h s) (hb : Mov S w w') (hn : ∀ p ∈ S, p ∉ foot g r ns) : CacheAt w' g r m ns h s := H.keep fun p hp => hb.block p (H.lt p hp) fun hS => hn p hS hp
theorem CacheAt.drew (H : CacheAt w g r m ns h s) : CacheAt w.drew g r m ns h s := H.keep fun _ _ => rfl
/-- A block of cells of another type is none of a cache's. -/
theorem CacheAt.not {k : Nat} {t : TypeId} {cs : Array Value} (H : CacheAt w g r m ns h s) (hc : Cells w k t cs) (h1 : t ≠ 57) (h2 : t ≠ 61) : k ∉ foot g r ns := by
  intro hm
  rcases List.mem_cons.1 hm with e | hm
  · exact Cells.ne hc H.dl.head h1 e
  · rcases List.mem_cons.1 hm with e | hm
    · exact H.map.ne hc e
    · have : ∀ (l : List Nd) (a b : Option Nat), Seg w a l b → k ∉ blk l := by
        intro l
        induction l with
        | nil => intro _ _ _ h; cases h
        | cons x l ih =>
          intro a b hs hm
          rcases List.mem_cons.1 hm with e | hm
          · obtain ⟨cs', hc', -⟩ := hs.1
            exact Cells.ne hc hc' h2 e
          · exact ih _ _ hs.2 hm
      exact this ns _ _ H.dl.seg hm
end
end Cac
end Go.Proofs.Ytfngebikihdogaa
