/-
  PACKS IN MEMORY: any, of one's own, in a block of their own.
-/
import Derived.Test.YtedandbkdjmfhaaPkPlain
import Derived.Test.YtedandbkdjmfhaaOwnW
import Derived.Test.YtedandbkdjmfhaaOwnB
import Derived.Test.YtedandbkdjmfhaaRegK
namespace Go.Proofs.Ytedandbkdjmfhaa
open Go.RowKit Mem Box
namespace Pk
open Seg (Hdr Rc Rv cellsOf cellsOf_len RowR hdV recV fits nums hnums nn goods frame headX recX frames check recB headB)

/-- A pack as memory has it. -/
structure Px where
  p : Pp
  B : Option Addr
  bc : Nat
  L : Option Addr
  lc : Nat
  xs : List Rv
def pcells (x : Px) : Array Value := #[.int .i64 x.p.h.host, .int .i64 x.p.h.epoch, .int .i64 x.p.h.seq, .int .i64 x.p.zone, .int .i64 x.p.cap, .int .i64 x.p.at_, .slice x.B x.p.buf.length x.bc, .slice x.L x.p.l.length x.lc]
def pxv (x : Px) : Value := .agg #[.int .i64 x.p.h.host, .int .i64 x.p.h.epoch, .int .i64 x.p.h.seq, .int .i64 x.p.zone, .int .i64 x.p.cap, .int .i64 x.p.at_, .slice x.B x.p.buf.length x.bc, .slice x.L x.p.l.length x.lc]
abbrev PBox (w : World) (g : Nat) (x : Px) : Prop := Cells w g 29 #[.int .i64 x.p.h.host, .int .i64 x.p.h.epoch, .int .i64 x.p.h.seq, .int .i64 x.p.zone, .int .i64 x.p.cap, .int .i64 x.p.at_, .slice x.B x.p.buf.length x.bc, .slice x.L x.p.l.length x.lc]
abbrev ZBox (w : World) (g : Nat) : Prop := Cells w g 29 #[.int .i64 0, .int .i64 0, .int .i64 0, .int .i64 0, .int .i64 0, .int .i64 0, .slice none 0 0, .slice none 0 0]
abbrev ZRec (w : World) (g : Nat) : Prop := Cells w g 34 #[.int .i64 0, .int .i64 0, .int .i64 0, .int .i64 0, .int .i64 0, .int .i64 0, .slice none 0 0]
abbrev RBox (w : World) (g : Nat) (y : Rv) : Prop := Cells w g 34 #[.int .i64 y.r.kind, .int .i64 y.r.lba, .int .i64 y.r.n, .int .i64 y.r.ver, .int .i64 y.r.zone, .int .i64 y.r.off, .slice y.D y.r.data.length y.c]
def rvV (y : Rv) : Value := .agg #[.int .i64 y.r.kind, .int .i64 y.r.lba, .int .i64 y.r.n, .int .i64 y.r.ver, .int .i64 y.r.zone, .int .i64 y.r.off, .slice y.D y.r.data.length y.c]
theorem fitR : OwnS.Fit cellsOf 7 := ⟨by omega, fun _ => rfl, fun x u hu => by
  simp [cellsOf] at hu
  rcases hu with rfl | rfl | rfl | rfl | rfl | rfl | rfl <;> rfl⟩
theorem info_recP : (Try.prog.info? 34).map (fun i => (i.zero, i.size, i.bytes)) = some (some (.agg #[.int .i64 0, .int .i64 0, .int .i64 0, .int .i64 0, .int .i64 0, .int .i64 0, .slice none 0 0]), 7, 72) := by kernel_rfl

section
variable {w w' : World} {A : Option Addr} {n c : Nat} {xs : List Rv}
theorem rowS_of (h : RowR w A n c xs) : RowS cellsOf 7 w A n c xs := by
  refine ⟨h.len, h.cap, Nat.le_trans h.big (by omega), fun h0 => ?_⟩
  obtain ⟨b, o, e, hb, hc⟩ := h.at_ h0
  exact ⟨b, o, e, hb, fun i x hi j u hu => by rw [Nat.add_assoc]; exact hc i x hi j u hu⟩
theorem rowR_of (h : RowS cellsOf 7 w A n c xs) (hn : n ≤ 1954687338211) (hd : ∀ x ∈ xs, Row cb w x.D x.r.data.length x.c x.r.data) : RowR w A n c xs := by
  refine ⟨h.len, h.cap, hn, fun h0 => ?_, hd⟩
  obtain ⟨b, o, e, hb, hc⟩ := h.at_ h0
  exact ⟨b, o, e, hb, fun i x hi j u hu => by rw [← Nat.add_assoc]; exact hc i x hi j u hu⟩
end

/-! ### Any -/
structure PackAt (w : World) (x : Px) : Prop where
  buf : Row cb w x.B x.p.buf.length x.bc x.p.buf
  recs : RowR w x.L x.p.l.length x.lc x.xs
  eq : x.xs.map Rv.r = x.p.l
theorem PackAt.below {w w' : World} {x : Px} (h : PackAt w x) (hb : Below w.heap.size w w') : PackAt w' x := ⟨h.buf.below hb, h.recs.below hb, h.eq⟩
/-! ### Of one's own -/
abbrev OwnB1 (base : Nat) (w : World) (B : Option Addr) (c : Nat) (l : List (BitVec 8)) : Prop := Mem.Owns cb 5 base w (.slice B l.length c) l.length l
abbrev OwnRs (base : Nat) (w : World) (L : Option Addr) (n c : Nat) (xs : List Rv) : Prop := OwnS.Owns cellsOf 7 34 base w (.slice L n c) n xs
def Off (y : Rv) (B : Option Addr) (n c : Nat) : Prop := (Value.slice y.D y.r.data.length y.c).ownBlock = none ∨ (Value.slice y.D y.r.data.length y.c).ownBlock ≠ (Value.slice B n c).ownBlock
structure OwnP (base : Nat) (w : World) (x : Px) : Prop where
  buf : OwnB1 base w x.B x.bc x.p.buf
  recs : OwnRs base w x.L x.p.l.length x.lc x.xs
  data : ∀ y ∈ x.xs, OwnB1 base w y.D y.c y.r.data
  off : ∀ y ∈ x.xs, Off y x.B x.p.buf.length x.bc
  eq : x.xs.map Rv.r = x.p.l
section
variable {base : Nat} {w w' : World} {x : Px}
theorem OwnP.below (h : OwnP base w x) (hb : Below w.heap.size w w') : OwnP base w' x := ⟨h.buf.below hb, h.recs.below hb, fun y hy => (h.data y hy).below hb, h.off, h.eq⟩
theorem OwnP.mono {base' : Nat} (h : OwnP base w x) (hb : base' ≤ base) : OwnP base' w x := ⟨h.buf.mono hb, h.recs.mono hb, fun y hy => (h.data y hy).mono hb, h.off, h.eq⟩
/-- What is of another type is written to. -/
theorem OwnP.chg {t : TypeId} {r : Option Nat} (h : OwnP base w x) (hc : Chg t r w w') (h1 : 5 ≠ t) (h2 : 34 ≠ t) : OwnP base w' x := ⟨hc.ownI h.buf h1, hc.owns h.recs h2, fun y hy => hc.ownI (h.data y hy) h1, h.off, h.eq⟩
theorem OwnP.any (h : OwnP base w x) (ho : OkP x.p) : PackAt w x := by
  have hl := ho.l_le
  have hb := ho.buf_le
  refine ⟨(Wire.gave_row h.buf (by omega)).1, rowR_of (h.recs.row fitR (by omega)) (by omega) (fun y hy => (Wire.gave_row (h.data y hy) ?_).1), h.eq⟩
  have hm : y.r ∈ x.p.l := by rw [← h.eq]; exact List.mem_map_of_mem hy
  have := (Seg.check_ok (ho.data _ hm)).2
  omega
theorem OwnP.nil (base : Nat) (w : World) (h : Hdr) (z c a : Int) : OwnP base w ⟨⟨h, z, c, a, [], []⟩, none, 0, none, 0, []⟩ := ⟨Mem.Owns.nil _ _ _ _, OwnS.Owns.nil _ _ _ _ _, by simp, by simp, rfl⟩
theorem OwnP.zero (base : Nat) (w : World) : OwnP base w ⟨zeroP, none, 0, none, 0, []⟩ := OwnP.nil base w _ _ _ _
end
/-! ### Boxes -/
def eightC (w : World) (g : Nat) (a b c d e f h i : Value) : Prop :=
  w.cell? ⟨g, 0, none⟩ = some a ∧ w.cell? ⟨g, 1, none⟩ = some b ∧ w.cell? ⟨g, 2, none⟩ = some c ∧ w.cell? ⟨g, 3, none⟩ = some d ∧ w.cell? ⟨g, 4, none⟩ = some e ∧ w.cell? ⟨g, 5, none⟩ = some f ∧ w.cell? ⟨g, 6, none⟩ = some h ∧ w.cell? ⟨g, 7, none⟩ = some i
section
variable {w : World} {g : Nat} {t : TypeId}
theorem eight_cells {a b c d e f h i : Value} (hc : Cells w g t #[a, b, c, d, e, f, h, i]) : eightC w g a b c d e f h i := ⟨hc.cell 0, hc.cell 1, hc.cell 2, hc.cell 3, hc.cell 4, hc.cell 5, hc.cell 6, hc.cell 7⟩
theorem eight_free {cs : Array Value} (h : Cells w g t cs) : w.frozen? ⟨g, 0, none⟩ = false ∧ w.frozen? ⟨g, 1, none⟩ = false ∧ w.frozen? ⟨g, 2, none⟩ = false ∧ w.frozen? ⟨g, 3, none⟩ = false ∧ w.frozen? ⟨g, 4, none⟩ = false ∧ w.frozen? ⟨g, 5, none⟩ = false ∧ w.frozen? ⟨g, 6, none⟩ = false ∧ w.frozen? ⟨g, 7, none⟩ = false := ⟨h.frozen 0, h.frozen 1, h.frozen 2, h.frozen 3, h.frozen 4, h.frozen 5, h.frozen 6, h.frozen 7⟩
def set8W (w : World) (g : Nat) (a b c d e f h i : Value) : World := (((((((w.setCell ⟨g, 0, none⟩ a).setCell ⟨g, 1, none⟩ b).setCell ⟨g, 2, none⟩ c).setCell ⟨g, 3, none⟩ d).setCell ⟨g, 4, none⟩ e).setCell ⟨g, 5, none⟩ f).setCell ⟨g, 6, none⟩ h).setCell ⟨g, 7, none⟩ i
theorem set8 {a b c d e f h i : Value} (hc : Cells w g t #[a, b, c, d, e, f, h, i]) (a' b' c' d' e' f' h' i' : Value) : Cells (set8W w g a' b' c' d' e' f' h' i') g t #[a', b', c', d', e', f', h', i'] := by
  unfold set8W
  have h1 : Cells (w.setCell ⟨g, 0, none⟩ a') g t #[a', b, c, d, e, f, h, i] := by simpa using hc.set_ 0 a'
  generalize w.setCell ⟨g, 0, none⟩ a' = w1 at *
  have h2 : Cells (w1.setCell ⟨g, 1, none⟩ b') g t #[a', b', c, d, e, f, h, i] := by simpa using h1.set_ 1 b'
  generalize w1.setCell ⟨g, 1, none⟩ b' = w2 at *
  have h3 : Cells (w2.setCell ⟨g, 2, none⟩ c') g t #[a', b', c', d, e, f, h, i] := by simpa using h2.set_ 2 c'
  generalize w2.setCell ⟨g, 2, none⟩ c' = w3 at *
  have h4 : Cells (w3.setCell ⟨g, 3, none⟩ d') g t #[a', b', c', d', e, f, h, i] := by simpa using h3.set_ 3 d'
  generalize w3.setCell ⟨g, 3, none⟩ d' = w4 at *
  have h5 : Cells (w4.setCell ⟨g, 4, none⟩ e') g t #[a', b', c', d', e', f, h, i] := by simpa using h4.set_ 4 e'
  generalize w4.setCell ⟨g, 4, none⟩ e' = w5 at *
  have h6 : Cells (w5.setCell ⟨g, 5, none⟩ f') g t #[a', b', c', d', e', f', h, i] := by simpa using h5.set_ 5 f'
  generalize w5.setCell ⟨g, 5, none⟩ f' = w6 at *
  have h7 : Cells (w6.setCell ⟨g, 6, none⟩ h') g t #[a', b', c', d', e', f', h', i] := by simpa using h6.set_ 6 h'
  generalize w6.setCell ⟨g, 6, none⟩ h' = w7 at *
  simpa using h7.set_ 7 i'
theorem mov8 (w : World) (g : Nat) (a b c d e f h i : Value) : Mov [g] w (set8W w g a b c d e f h i) := by
  have s := fun (w : World) (i : Nat) (v : Value) => Mov.set1 w (S := [g]) (q := g) (by simp) i v
  have tr := fun {a b c : World} (h : Mov [g] a b) (k : Mov [g] b c) => h.trans k (fun _ h => .inl h)
  exact tr (tr (tr (tr (tr (tr (tr (s _ _ _) (s _ _ _)) (s _ _ _)) (s _ _ _)) (s _ _ _)) (s _ _ _)) (s _ _ _)) (s _ _ _)
def sevenC (w : World) (g : Nat) (a b c d e f h : Value) : Prop :=
  w.cell? ⟨g, 0, none⟩ = some a ∧ w.cell? ⟨g, 1, none⟩ = some b ∧ w.cell? ⟨g, 2, none⟩ = some c ∧ w.cell? ⟨g, 3, none⟩ = some d ∧ w.cell? ⟨g, 4, none⟩ = some e ∧ w.cell? ⟨g, 5, none⟩ = some f ∧ w.cell? ⟨g, 6, none⟩ = some h
theorem seven_cells {a b c d e f h : Value} (hc : Cells w g t #[a, b, c, d, e, f, h]) : sevenC w g a b c d e f h := ⟨hc.cell 0, hc.cell 1, hc.cell 2, hc.cell 3, hc.cell 4, hc.cell 5, hc.cell 6⟩
theorem seven_free {cs : Array Value} (h : Cells w g t cs) : w.frozen? ⟨g, 0, none⟩ = false ∧ w.frozen? ⟨g, 1, none⟩ = false ∧ w.frozen? ⟨g, 2, none⟩ = false ∧ w.frozen? ⟨g, 3, none⟩ = false ∧ w.frozen? ⟨g, 4, none⟩ = false ∧ w.frozen? ⟨g, 5, none⟩ = false ∧ w.frozen? ⟨g, 6, none⟩ = false := ⟨h.frozen 0, h.frozen 1, h.frozen 2, h.frozen 3, h.frozen 4, h.frozen 5, h.frozen 6⟩
def set7W (w : World) (g : Nat) (a b c d e f h : Value) : World := ((((((w.setCell ⟨g, 0, none⟩ a).setCell ⟨g, 1, none⟩ b).setCell ⟨g, 2, none⟩ c).setCell ⟨g, 3, none⟩ d).setCell ⟨g, 4, none⟩ e).setCell ⟨g, 5, none⟩ f).setCell ⟨g, 6, none⟩ h
theorem set7 {a b c d e f h : Value} (hc : Cells w g t #[a, b, c, d, e, f, h]) (a' b' c' d' e' f' h' : Value) : Cells (set7W w g a' b' c' d' e' f' h') g t #[a', b', c', d', e', f', h'] := by
  unfold set7W
  have h1 : Cells (w.setCell ⟨g, 0, none⟩ a') g t #[a', b, c, d, e, f, h] := by simpa using hc.set_ 0 a'
  generalize w.setCell ⟨g, 0, none⟩ a' = w1 at *
  have h2 : Cells (w1.setCell ⟨g, 1, none⟩ b') g t #[a', b', c, d, e, f, h] := by simpa using h1.set_ 1 b'
  generalize w1.setCell ⟨g, 1, none⟩ b' = w2 at *
  have h3 : Cells (w2.setCell ⟨g, 2, none⟩ c') g t #[a', b', c', d, e, f, h] := by simpa using h2.set_ 2 c'
  generalize w2.setCell ⟨g, 2, none⟩ c' = w3 at *
  have h4 : Cells (w3.setCell ⟨g, 3, none⟩ d') g t #[a', b', c', d', e, f, h] := by simpa using h3.set_ 3 d'
  generalize w3.setCell ⟨g, 3, none⟩ d' = w4 at *
  have h5 : Cells (w4.setCell ⟨g, 4, none⟩ e') g t #[a', b', c', d', e', f, h] := by simpa using h4.set_ 4 e'
  generalize w4.setCell ⟨g, 4, none⟩ e' = w5 at *
  have h6 : Cells (w5.setCell ⟨g, 5, none⟩ f') g t #[a', b', c', d', e', f', h] := by simpa using h5.set_ 5 f'
  generalize w5.setCell ⟨g, 5, none⟩ f' = w6 at *
  simpa using h6.set_ 6 h'
theorem mov7 (w : World) (g : Nat) (a b c d e f h : Value) : Mov [g] w (set7W w g a b c d e f h) := by
  have s := fun (w : World) (i : Nat) (v : Value) => Mov.set1 w (S := [g]) (q := g) (by simp) i v
  have tr := fun {a b c : World} (h : Mov [g] a b) (k : Mov [g] b c) => h.trans k (fun _ h => .inl h)
  exact tr (tr (tr (tr (tr (tr (s _ _ _) (s _ _ _)) (s _ _ _)) (s _ _ _)) (s _ _ _)) (s _ _ _)) (s _ _ _)
end
end Pk
end Go.Proofs.Ytedandbkdjmfhaa
