/-
  SEVERAL TEXTS IN ONE FILE: PkLandM, PkLandT.
-/
import Derived.Test.YtedandbkdjmfhaaGreatJ22
set_option linter.unusedSimpArgs false
set_option linter.unusedVariables false
/-
  WHAT PackerLands CARRIES IN MEMORY: batches of records as they came in; a device that lies apart from what is written to.
-/
namespace Go.Proofs.YtedandbkdjmfhaaGreat
open Go.RowKit Mem Zns Box
open Zon (Zn Zv cellsZ nilZ B8)
namespace Pk
open Seg (Hdr Rc Rv cellsOf cellsOf_len RowR hdV recV fits nums hnums nn goods frame headX recX frames check recB headB)
/-! ### Batches -/
structure Bt where
  A : Option Addr
  n : Nat
  c : Nat
  xs : List Rv
def btv (b : Bt) : Value := .slice b.A b.n b.c
def cellsBt (b : Bt) : List Value := [.slice b.A b.n b.c]
structure BtAt (w : World) (b : Bt) : Prop where
  row : RowR w b.A b.n b.c b.xs
  good : goods (b.xs.map Rv.r)
theorem bt_rows {w : World} {A : Option Addr} {n c : Nat} {bs : List Bt} (h : RowS cellsBt 1 w A n c bs) : Row btv w A n c bs := by
  refine ⟨h.len, h.cap, h.big, fun h0 => ?_⟩
  obtain ⟨b, o, e, hb, hc⟩ := h.at_ h0
  refine ⟨b, o, e, hb, fun i x hi => ?_⟩
  have := hc i x hi 0 _ rfl
  rwa [Nat.mul_one, Nat.add_zero] at this
/-! ### A device apart from a block -/
theorem row_grown {α : Type} {f : α → Value} {w w' : World} {r : Option Nat} {A : Option Addr} {n c : Nat} {l : List α} (h : Row f w A n c l) (hg : w.grownBy w' r) (hn : 0 < n → ∀ q o, A = some ⟨q, o, none⟩ → r ≠ some q) : Row f w' A n c l := by
  refine ⟨h.len, h.cap, h.big, fun h0 => ?_⟩
  obtain ⟨q, o, e, hq, hcell⟩ := h.at_ h0
  refine ⟨q, o, e, Nat.lt_of_lt_of_le hq hg.size, fun i x hi => ?_⟩
  rw [World.cell?_of_block (w := w) (hg.block q hq (fun e2 => hn h0 q o e e2.symm))]
  exact hcell i x hi
theorem rowS_grown {α : Type} {cells : α → List Value} {k : Nat} {w w' : World} {r : Option Nat} {A : Option Addr} {n c : Nat} {l : List α} (h : RowS cells k w A n c l) (hg : w.grownBy w' r) (hn : 0 < n → ∀ q o, A = some ⟨q, o, none⟩ → r ≠ some q) : RowS cells k w' A n c l := by
  refine ⟨h.len, h.cap, h.big, fun h0 => ?_⟩
  obtain ⟨q, o, e, hq, hcell⟩ := h.at_ h0
  refine ⟨q, o, e, Nat.lt_of_lt_of_le hq hg.size, fun i x hi j u hu => ?_⟩
  rw [World.cell?_of_block (w := w) (hg.block q hq (fun e2 => hn h0 q o e e2.symm))]
  exact hcell i x hi j u hu
/-- No bytes of the device, and no zone of it, lie in that block. -/
structure Apd (X : Dx) (r : Option Nat) : Prop where
  zs : 0 < X.n → ∀ q o, X.A = some ⟨q, o, none⟩ → r ≠ some q
  data : ∀ v ∈ X.xs, 0 < v.z.data.length → ∀ q o, v.D = some ⟨q, o, none⟩ → r ≠ some q
theorem DevAt.grown {w w' : World} {X : Dx} {r : Option Nat} (h : DevAt w X) (hg : w.grownBy w' r) (ha : Apd X r) : DevAt w' X := ⟨rowS_grown h.row hg ha.zs, fun v hv => row_grown (h.data v hv) hg (ha.data v hv)⟩
/-- All of it lies from block b on. -/
structure Fre (b : Nat) (X : Dx) : Prop where
  zs : ∀ q o, X.A = some ⟨q, o, none⟩ → b ≤ q
  data : ∀ v ∈ X.xs, Lo b v.D
theorem Fre.mono {a b : Nat} {X : Dx} (h : Fre b X) (hab : a ≤ b) : Fre a X := ⟨fun q o e => Nat.le_trans hab (h.zs q o e), fun v hv => (h.data v hv).mono hab⟩
theorem Fre.apd {b : Nat} {X : Dx} {r : Option Nat} (h : Fre b X) (hr : ∀ q, r = some q → q < b) : Apd X r :=
  ⟨fun _ q o e e2 => by have := h.zs q o e; have := hr q e2; omega, fun v hv _ q o e e2 => by have := h.data v hv q o e; have := hr q e2; omega⟩
theorem Fre.box {b g : Nat} {X : Dx} (h : Fre b X) (hg : g < b) : Apd X (some g) := h.apd fun q e => by injection e with e; omega
theorem Apd.none_ (X : Dx) : Apd X none := ⟨fun _ _ _ _ => by simp, fun _ _ _ _ _ _ => by simp⟩
theorem Apd.new {w : World} {X : Dx} {s s' : Option Nat} (h : Apd X s) (hd : DevAt w X) (hn : s' = s ∨ s' = some w.heap.size) : Apd X s' := by
  rcases hn with rfl | rfl
  · exact h
  · refine ⟨fun h0 q o e e2 => ?_, fun v hv h0 q o e e2 => ?_⟩
    · obtain ⟨b, o', e', hb, -⟩ := hd.row.at_ h0
      rw [e] at e'
      injection e' with e'
      injection e' with e1
      injection e2 with e2
      omega
    · obtain ⟨b, o', e', hb, -⟩ := (hd.data v hv).at_ h0
      rw [e] at e'
      injection e' with e'
      injection e' with e1
      injection e2 with e2
      omega
/-- What Do gave, with where it lies. -/
def Did2 (w : World) (p : Dv) (e : Int) (at_ : Int) (b : List B8) (en : Ending) (w' : World) : Prop :=
  ∃ (X : Dx) (B : Option Addr) (k : Nat), en = .returned (.tuple #[.agg #[.int .i64 X.cap, .int .i64 X.op, .int .i64 X.ac, .slice X.A X.n X.c], .agg #[.int .i64 e, .int .i64 at_, .slice B b.length k]]) ∧ DevAt w' X ∧ X.p = p ∧ X.n = p.zs.length ∧ Row cb w' B b.length k b ∧ Fre w.heap.size X ∧ Below w.heap.size w w'
theorem do_2 {X : Dx} {x : Cx} {w : World} {p : Dv} {q : Dn} (h : DevAt w X) (hn : X.n ≤ 1000) (hc : CmdAt w x) (hok : okD X.p = true) (he : doP X.p x.c = (p, q)) :
    Calls Tryz.prog 7 #[.agg #[.int .i64 X.cap, .int .i64 X.op, .int .i64 X.ac, .slice X.A X.n X.c], .agg #[.int .i64 x.c.d, .int .i64 x.c.zone, .int .i64 x.c.epoch, .int .i64 x.c.off, .int .i64 x.c.n, .slice x.B x.c.b.length x.k]] w (Did2 w p q.e q.at_ q.b) := by
  have := do_call h hn hc hok
  rw [he] at this
  refine this.mono ?_
  rintro e w' ⟨A, c, xs, B, k, rfl, hdev, hp, hrow, hb, hA, hLO⟩
  exact ⟨⟨X.cap, X.op, X.ac, A, X.n, c, xs⟩, B, k, rfl, hdev, hp, by rw [← hdev.plen]; exact congrArg (fun d : Dv => d.zs.length) hp, hrow, ⟨hA, hLO⟩, hb⟩
/-- The three commands: a fence, bytes behind, bytes read. -/
theorem do_fence {X : Dx} {w : World} {M E : Int} (h : DevAt w X) (hX : X.p = devP M 0 []) (hn : X.n = 2) (h1 : 1 ≤ M) (h2 : M ≤ 65536) (hE : 0 < E) :
    Calls Tryz.prog 7 #[.agg #[.int .i64 X.cap, .int .i64 X.op, .int .i64 X.ac, .slice X.A X.n X.c], .agg #[.int .i64 7, .int .i64 1, .int .i64 E, .int .i64 0, .int .i64 0, .slice none 0 0]] w (Did2 w (devP M E []) 0 0 []) :=
  do_2 (p := devP M E []) (q := ⟨0, 0, []⟩) (x := ⟨⟨7, 1, E, 0, 0, []⟩, none, 0⟩) h (by omega) ⟨Row.nil cb w, by show (0 : Int) ≤ _; omega⟩ (by rw [hX]; exact dev_ok h1 h2 (Int.le_refl 0) (by simp; omega)) (by rw [hX]; exact dev_fence h1 h2 hE)
theorem do_fence0 {X : Dx} {w : World} {M : Int} (h : DevAt w X) (hX : X.p = devP M 0 []) (hn : X.n = 2) (h1 : 1 ≤ M) (h2 : M ≤ 65536) :
    Calls Tryz.prog 7 #[.agg #[.int .i64 X.cap, .int .i64 X.op, .int .i64 X.ac, .slice X.A X.n X.c], .agg #[.int .i64 7, .int .i64 1, .int .i64 0, .int .i64 0, .int .i64 0, .slice none 0 0]] w (Did2 w (devP M 0 []) 42 0 []) :=
  do_2 (p := devP M 0 []) (q := ⟨42, 0, []⟩) (x := ⟨⟨7, 1, 0, 0, 0, []⟩, none, 0⟩) h (by omega) ⟨Row.nil cb w, by show (0 : Int) ≤ _; omega⟩ (by rw [hX]; exact dev_ok h1 h2 (Int.le_refl 0) (by simp; omega)) (by rw [hX]; exact dev_fence0 h1 h2)
theorem do_append {X : Dx} {w : World} {M E : Int} {D b : List B8} {B : Option Addr} {k m : Nat} (h : DevAt w X) (hX : X.p = devP M E D) (hn : X.n = 2) (h1 : 1 ≤ M) (h2 : M ≤ 65536) (hE : 0 ≤ E) (hr : Row cb w B m k b) (hm : m = b.length) (hb : 0 < b.length) (hD : (D.length : Int) + (b.length : Int) ≤ M) :
    Calls Tryz.prog 7 #[.agg #[.int .i64 X.cap, .int .i64 X.op, .int .i64 X.ac, .slice X.A X.n X.c], .agg #[.int .i64 1, .int .i64 1, .int .i64 E, .int .i64 0, .int .i64 0, .slice B m k]] w (Did2 w (devP M E (D ++ b)) 0 (D.length : Int) []) := by
  subst hm
  exact do_2 (p := devP M E (D ++ b)) (q := ⟨0, (D.length : Int), []⟩) (x := ⟨⟨1, 1, E, 0, 0, b⟩, B, k⟩) h (by omega) ⟨hr, by show (0 : Int) ≤ _; omega⟩ (by rw [hX]; exact dev_ok h1 h2 hE (by omega)) (by rw [hX]; exact dev_append h1 h2 hE hb hD)
theorem do_read {X : Dx} {w : World} {M E : Int} {D : List B8} {off n : Int} (h : DevAt w X) (hX : X.p = devP M E D) (hn : X.n = 2) (h1 : 1 ≤ M) (h2 : M ≤ 65536) (hE : 0 ≤ E) (hD : (D.length : Int) ≤ M) (ho : 0 ≤ off) (hk : 0 ≤ n) (hon : off + n ≤ (D.length : Int)) :
    Calls Tryz.prog 7 #[.agg #[.int .i64 X.cap, .int .i64 X.op, .int .i64 X.ac, .slice X.A X.n X.c], .agg #[.int .i64 2, .int .i64 1, .int .i64 E, .int .i64 off, .int .i64 n, .slice none 0 0]] w (Did2 w (devP M E D) 0 0 ((D.drop off.toNat).take n.toNat)) :=
  do_2 (p := devP M E D) (q := ⟨0, 0, (D.drop off.toNat).take n.toNat⟩) (x := ⟨⟨2, 1, E, off, n, []⟩, none, 0⟩) h (by omega) ⟨Row.nil cb w, by show off ≤ _; omega⟩ (by rw [hX]; exact dev_ok h1 h2 hE hD) (by rw [hX]; exact dev_read h1 h2 hE hD ho hk hon)
/-- A device anew. -/
theorem new_2 {w : World} {M : Int} (h1 : 1 ≤ M) (h2 : M ≤ 65536) :
    Calls Tryz.prog 5 #[.int .i64 2, .int .i64 M, .int .i64 1, .int .i64 1] w fun en w' => ∃ X : Dx, en = .returned (.tuple #[.agg #[.int .i64 X.cap, .int .i64 X.op, .int .i64 X.ac, .slice X.A X.n X.c], .int .i64 0]) ∧ DevAt w' X ∧ X.p = devP M 0 [] ∧ X.n = 2 ∧ Below w.heap.size w w' := by
  have := new_any 2 M 1 1 w
  rw [dev_new h1 h2, dev_bounds h1 h2] at this
  refine this.mono ?_
  rintro e w' ⟨X, rfl, hd, hp, hb⟩
  exact ⟨X, rfl, hd, hp, by rw [← hd.plen, hp]; rfl, hb⟩
/-- The zone's bytes, and where they are found. -/
theorem dev_data {X : Dx} {w : World} {M E : Int} {D : List B8} (h : DevAt w X) (hX : X.p = devP M E D) (hn : X.n = 2) : ∃ q o v, X.A = some ⟨q, o, none⟩ ∧ q < w.heap.size ∧ v ∈ X.xs ∧ v.z.data = D ∧ ∀ W : World, W.heap[q]? = w.heap[q]? → W.cell? ⟨q, o + 3 + 2, none⟩ = some (.slice v.D v.z.data.length v.c) := by
  have hx : X.xs.map Zv.z = [nilZ, zoneOf M E D] := congrArg Dv.zs hX
  obtain ⟨v, hv⟩ : ∃ v, X.xs[1]? = some v := by
    have : X.xs.length = 2 := by rw [h.row.len, hn]
    exact ⟨_, List.getElem?_eq_getElem (by omega)⟩
  have hz : v.z = zoneOf M E D := by
    have := congrArg (fun l : List Zn => l[1]?) hx
    simp only [List.getElem?_map, hv, Option.map_some] at this
    simpa using this
  obtain ⟨q, o, e, hq, hc⟩ := h.row.elem hv
  refine ⟨q, o, v, e, hq, List.mem_of_getElem? hv, by rw [hz]; rfl, fun W hW => ?_⟩
  have := hc W hW 2 _ rfl
  rwa [Nat.one_mul] at this
/-! ### The pack, the records wanted -/
theorem OwnP.wanted {base b n c : Nat} {w w' : World} {Y : Px} {A : Option Addr} {l : List Rv} (ho : OwnP base w Y) (hs : OwnS.Owns cellsOf 7 57 b w (.slice A n c) n l) (hf : Ap (.slice Y.L Y.p.l.length Y.lc) (.slice A n c)) (hg : w.grownBy w' (Value.slice A n c).ownBlock) : OwnP base w' Y := by
  have cg : Chg 57 _ w w' := Chg.own hs hg
  exact ⟨cg.ownI ho.buf (by decide), cg.owns_ne ho.recs hf, fun y hy => cg.ownI (ho.data y hy) (by decide), ho.off, ho.eq⟩
theorem ap_laterS {α β : Type} {ca : α → List Value} {cc : β → List Value} {ka kc : Nat} {e e' : TypeId} {base n m : Nat} {w w' : World} {s s2 : Value} {l : List α} {l' : List β} (hs : OwnS.Owns ca ka e base w s n l) (ho : OwnS.Owns cc kc e' w.heap.size w' s2 m l') : Ap s2 s := by
  unfold Ap
  rcases e : s2.ownBlock with _ | q
  · exact .inl rfl
  · refine .inr fun h => ?_
    have h2 := (hs.lt q h.symm).2
    have h3 := (ho.lt q e).1
    omega
/-- A row of one's own is written to or grows: what is behind Do lies apart from it. -/
theorem apd_owns {α : Type} {cells : α → List Value} {k : Nat} {e : TypeId} {base n : Nat} {w : World} {s : Value} {l : List α} {X : Dx} (h : Fre w.heap.size X) (ho : OwnS.Owns cells k e base w s n l) : Apd X s.ownBlock := h.apd fun q e => (ho.lt q e).2
theorem apd_ownI {α : Type} {f : α → Value} {e : TypeId} {base n : Nat} {w : World} {s : Value} {l : List α} {X : Dx} (h : Fre w.heap.size X) (ho : Mem.Owns f e base w s n l) : Apd X s.ownBlock := h.apd fun q e => (OwnB.owns_lt ho q e).2
/-- Flush, of what is packed for the second zone. -/
theorem flush_2 {x : Px} {w : World} {h : Hdr} {M : Int} {ws : List Rc} {D : List B8} (hp : PackAt w x) (i : Lw h M ws D x.p) (h0 : 0 < x.p.buf.length) :
    Calls Tryz.prog 10 #[pxv x] w fun e w' => ∃ (B : Option Addr) (d m : Nat) (y : Px), e = .returned (.tuple #[.agg #[.int .i64 1, .int .i64 1, .int .i64 h.epoch, .int .i64 0, .int .i64 0, .slice B m d], pxv y, .bool true]) ∧ m = x.p.buf.length ∧ y.p = behindP x.p ∧ OwnP w.heap.size w' y ∧ OwnB1 w.heap.size w' B d x.p.buf ∧ Below w.heap.size w w' := by
  refine (flush_some hp i.okp h0).mono ?_
  rintro e w' ⟨B, d, y, rfl, h1, h2, h3, h4⟩
  exact ⟨B, d, _, y, by rw [i.zz, i.hh], rfl, h1, h2, h3, h4⟩
/-! ### Boxes of three and of four cells -/
def set4W (w : World) (g : Nat) (a b c d : Value) : World := (((w.setCell ⟨g, 0, none⟩ a).setCell ⟨g, 1, none⟩ b).setCell ⟨g, 2, none⟩ c).setCell ⟨g, 3, none⟩ d
theorem set4 {w : World} {g : Nat} {t : TypeId} {a b c d : Value} (hc : Cells w g t #[a, b, c, d]) (a' b' c' d' : Value) : Cells (set4W w g a' b' c' d') g t #[a', b', c', d'] := by
  unfold set4W
  have h1 : Cells (w.setCell ⟨g, 0, none⟩ a') g t #[a', b, c, d] := by simpa using hc.set_ 0 a'
  generalize w.setCell ⟨g, 0, none⟩ a' = w1 at *
  have h2 : Cells (w1.setCell ⟨g, 1, none⟩ b') g t #[a', b', c, d] := by simpa using h1.set_ 1 b'
  generalize w1.setCell ⟨g, 1, none⟩ b' = w2 at *
  have h3 : Cells (w2.setCell ⟨g, 2, none⟩ c') g t #[a', b', c', d] := by simpa using h2.set_ 2 c'
  generalize w2.setCell ⟨g, 2, none⟩ c' = w3 at *
  simpa using h3.set_ 3 d'
theorem mov4 (w : World) (g : Nat) (a b c d : Value) : Mov [g] w (set4W w g a b c d) := by
  have s := fun (w : World) (i : Nat) (v : Value) => Mov.set1 w (S := [g]) (q := g) (by simp) i v
  have tr := fun {a b c : World} (h : Mov [g] a b) (k : Mov [g] b c) => h.trans k (fun _ h => .inl h)
  exact tr (tr (tr (s _ _ _) (s _ _ _)) (s _ _ _)) (s _ _ _)
def set3W (w : World) (g : Nat) (a b c : Value) : World := ((w.setCell ⟨g, 0, none⟩ a).setCell ⟨g, 1, none⟩ b).setCell ⟨g, 2, none⟩ c
theorem set3 {w : World} {g : Nat} {t : TypeId} {a b c : Value} (hc : Cells w g t #[a, b, c]) (a' b' c' : Value) : Cells (set3W w g a' b' c') g t #[a', b', c'] := by
  unfold set3W
  have h1 : Cells (w.setCell ⟨g, 0, none⟩ a') g t #[a', b, c] := by simpa using hc.set_ 0 a'
  generalize w.setCell ⟨g, 0, none⟩ a' = w1 at *
  have h2 : Cells (w1.setCell ⟨g, 1, none⟩ b') g t #[a', b', c] := by simpa using h1.set_ 1 b'
  generalize w1.setCell ⟨g, 1, none⟩ b' = w2 at *
  simpa using h2.set_ 2 c'
theorem mov3 (w : World) (g : Nat) (a b c : Value) : Mov [g] w (set3W w g a b c) := by
  have s := fun (w : World) (i : Nat) (v : Value) => Mov.set1 w (S := [g]) (q := g) (by simp) i v
  have tr := fun {a b c : World} (h : Mov [g] a b) (k : Mov [g] b c) => h.trans k (fun _ h => .inl h)
  exact tr (tr (s _ _ _) (s _ _ _)) (s _ _ _)
end Pk
end Go.Proofs.YtedandbkdjmfhaaGreat
/-
  WHAT PackerLands READS BEHIND ITS LAST APPEND: the zone's bytes, and a record's bytes where they were told to stand.
-/
namespace Go.Proofs.YtedandbkdjmfhaaGreat
open Go.RowKit Mem Zns Box
open Zon (Zn Zv cellsZ nilZ B8)
namespace Pk
open Seg (Hdr Rc Rv cellsOf cellsOf_len RowR hdV recV fits nums hnums nn goods frame headX recX frames check recB headB)
/-- The device's second zone, where it lies. -/
theorem dev_v {X : Dx} {w : World} {M E : Int} {D : List B8} (h : DevAt w X) (hX : X.p = devP M E D) (hn : X.n = 2) : ∃ q o v, X.A = some ⟨q, o, none⟩ ∧ X.xs[1]? = some v ∧ v.z.data = D := by
  have hx : X.xs.map Zv.z = [nilZ, zoneOf M E D] := congrArg Dv.zs hX
  obtain ⟨v, hv⟩ : ∃ v, X.xs[1]? = some v := by
    have : X.xs.length = 2 := by rw [h.row.len, hn]
    exact ⟨_, List.getElem?_eq_getElem (by omega)⟩
  have hz : v.z = zoneOf M E D := by
    have := congrArg (fun l : List Zn => l[1]?) hx
    simp only [List.getElem?_map, hv, Option.map_some] at this
    simpa using this
  obtain ⟨q, o, e, -, -⟩ := h.row.elem hv
  exact ⟨q, o, v, e, hv, by rw [hz]; rfl⟩
theorem dev_cell {X : Dx} {w : World} {q o : Nat} {v : Zv} (h : DevAt w X) (hA : X.A = some ⟨q, o, none⟩) (hv : X.xs[1]? = some v) : w.cell? ⟨q, o + 3 + 2, none⟩ = some (.slice v.D v.z.data.length v.c) := by
  obtain ⟨q', o', e, -, hc⟩ := h.row.elem hv
  rw [hA] at e
  injection e with e
  injection e with e1 e2
  subst e1 e2
  have := hc w rfl 2 _ rfl
  rwa [Nat.one_mul] at this
/-- A record's bytes, read where they were told to stand. -/
theorem do_land {X : Dx} {w : World} {h : Hdr} {M : Int} {D : List B8} {ws : List Rc} {p : Pp} {k : Nat} {r : Rc} {o : Int} (hd : DevAt w X) (hX : X.p = devP M h.epoch D ∧ X.n = 2) (hM : 1 ≤ M ∧ M ≤ 65536) (hE : 0 ≤ h.epoch) (i : Ld h M ws D p ∧ p.buf = []) (hr : ws[k]? = some r) (ho : (places ((frame (headX h)).length : Int) ws)[k]? = some o) :
    Calls Tryz.prog 7 #[.agg #[.int .i64 X.cap, .int .i64 X.op, .int .i64 X.ac, .slice X.A X.n X.c], .agg #[.int .i64 2, .int .i64 1, .int .i64 h.epoch, .int .i64 o, .int .i64 (r.data.length : Int), .slice none 0 0]] w fun en w' => ∃ (Z : Dx) (B : Option Addr) (b : Nat), en = .returned (.tuple #[.agg #[.int .i64 Z.cap, .int .i64 Z.op, .int .i64 Z.ac, .slice Z.A Z.n Z.c], .agg #[.int .i64 0, .int .i64 0, .slice B r.data.length b]]) ∧ Row cb w' B r.data.length b r.data ∧ Below w.heap.size w w' := by
  obtain ⟨h1, h2, h3⟩ := ld_place i.1 i.2 hr ho
  have hl := i.1.len
  refine (do_read hd hX.1 hX.2 hM.1 hM.2 hE (by omega) h1 (by omega) h2).mono ?_
  rintro e w' ⟨Z, B, b, rfl, -, -, -, hrow, -, hb⟩
  rw [Int.toNat_natCast, h3] at hrow ⊢
  exact ⟨Z, B, b, rfl, hrow, hb⟩
/-- Bytes do not lie in a box that holds none. -/
theorem row_box4 {w : World} {g : Nat} {t : TypeId} {a b c d : Value} {A : Option Addr} {n k : Nat} {l : List B8} (hr : Row cb w A n k l) (hc : Cells w g t #[a, b, c, d]) (na : ∀ x, a ≠ cb x) (nb : ∀ x, b ≠ cb x) (nc : ∀ x, c ≠ cb x) (nd : ∀ x, d ≠ cb x) (a' b' c' d' : Value) : Row cb (set4W w g a' b' c' d') A n k l := by
  unfold set4W
  have r1 := Row.setNot hr (hc.cell 0) na a'
  have h1 : Cells (w.setCell ⟨g, 0, none⟩ a') g t #[a', b, c, d] := by simpa using hc.set_ 0 a'
  generalize w.setCell ⟨g, 0, none⟩ a' = w1 at *
  have r2 := Row.setNot r1 (h1.cell 1) nb b'
  have h2 : Cells (w1.setCell ⟨g, 1, none⟩ b') g t #[a', b', c, d] := by simpa using h1.set_ 1 b'
  generalize w1.setCell ⟨g, 1, none⟩ b' = w2 at *
  have r3 := Row.setNot r2 (h2.cell 2) nc c'
  have h3 : Cells (w2.setCell ⟨g, 2, none⟩ c') g t #[a', b', c', d] := by simpa using h2.set_ 2 c'
  generalize w2.setCell ⟨g, 2, none⟩ c' = w3 at *
  exact Row.setNot r3 (h3.cell 3) nd d'
theorem row_box3 {w : World} {g : Nat} {t : TypeId} {a b c : Value} {A : Option Addr} {n k : Nat} {l : List B8} (hr : Row cb w A n k l) (hc : Cells w g t #[a, b, c]) (na : ∀ x, a ≠ cb x) (nb : ∀ x, b ≠ cb x) (nc : ∀ x, c ≠ cb x) (a' b' c' : Value) : Row cb (set3W w g a' b' c') A n k l := by
  unfold set3W
  have r1 := Row.setNot hr (hc.cell 0) na a'
  have h1 : Cells (w.setCell ⟨g, 0, none⟩ a') g t #[a', b, c] := by simpa using hc.set_ 0 a'
  generalize w.setCell ⟨g, 0, none⟩ a' = w1 at *
  have r2 := Row.setNot r1 (h1.cell 1) nb b'
  have h2 : Cells (w1.setCell ⟨g, 1, none⟩ b') g t #[a', b', c] := by simpa using h1.set_ 1 b'
  generalize w1.setCell ⟨g, 1, none⟩ b' = w2 at *
  exact Row.setNot r2 (h2.cell 2) nc c'
end Pk
end Go.Proofs.YtedandbkdjmfhaaGreat
