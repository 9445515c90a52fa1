/-
  A READ OF ALL THAT IS IN A ZONE, and what commands to other zones leave of it.
-/
import Derived.Test.YtbmblgjilmgkeaaZnsLawK
import Derived.Test.YtbmblgjilmgkeaaZnsCopy
import Derived.Test.YtbmblgjilmgkeaaCut
namespace Go.Proofs.Ytbmblgjilmgkeaa
open Go.RowKit Mem Zon
namespace Zns

/-- Zone i has that fence and those bytes. -/
def At (X : Dx) (i : Nat) (F : Int) (D : List B8) : Prop := ∃ v, X.xs[i]? = some v ∧ v.z.fc = F ∧ v.z.data = D
/-- The read of the whole zone. -/
def rdC (i : Nat) (F : Int) (D : List B8) : Cm := ⟨2, i, F, 0, D.length, []⟩
theorem read_at {X : Dx} {i : Nat} {F : Int} {D : List B8} (ho : okD X.p = true) (h : At X i F D) : (doP X.p (rdC i F D)).2 = ⟨0, 0, D⟩ := by
  obtain ⟨v, hv, rfl, rfl⟩ := h
  obtain ⟨k1, k2, k3, k4, k5, k6, k7⟩ := do_left ho (rdC i v.z.fc v.z.data)
  have hz : (X.p.zs)[i]? = some v.z := by show (X.xs.map Zv.z)[i]? = _; rw [List.getElem?_map, hv]; rfl
  have hl : i < X.p.zs.length := (List.getElem?_eq_some_iff.1 hz).1
  have ha : atI X.p.zs i = v.z := atI_eq hz
  rw [k6]
  have e1 : (!knownB 2 || (decide ((i : Int) < 0) || decide ((X.p.zs.length : Int) ≤ (i : Int)))) = false := by
    have h1 : knownB 2 = true := by decide
    have h2 : decide ((i : Int) < 0) = false := decide_eq_false (by omega)
    have h3 : decide ((X.p.zs.length : Int) ≤ (i : Int)) = false := decide_eq_false (by omega)
    rw [h1, h2, h3]; rfl
  have e2 : (!((2 : Int) == 7) && !(v.z.fc == (atI X.p.zs ((i : Int)).toNat).fc)) = false := by
    rw [Int.toNat_natCast, ha, beq_self_eq_true]; rfl
  have hb : readB v.z 0 (v.z.data.length : Int) = true := by
    unfold readB Zn.len
    have h2 : decide ((v.z.data.length : Int) < 0) = false := decide_eq_false (by omega)
    have h3 : decide ((v.z.data.length : Int) - 0 < (v.z.data.length : Int)) = false := decide_eq_false (by omega)
    rw [h2, h3]; rfl
  unfold stepP rdC
  dsimp only
  rw [e1, e2]
  simp only [cond_false]
  rw [Int.toNat_natCast]
  show (readP X.p.zs i (rdC i v.z.fc v.z.data)).2 = _
  unfold readP rdC readL
  dsimp only
  rw [ha, hb]
  show (⟨0, 0, (v.z.data.drop 0).take v.z.data.length⟩ : Dn) = _
  rw [List.drop_zero, List.take_length]
theorem St.at_ {X Y : Dx} {c : Cm} {p : Dn} (ho : okD X.p = true) (hs : St X c Y p) {i : Nat} {F : Int} {D : List B8} (hn : Y.xs.length = X.xs.length) (hi : (i : Int) ≠ c.zone) (h : At X i F D) : At Y i F D := by
  obtain ⟨v, hv, h1, h2⟩ := h
  have hl := (List.getElem?_eq_some_iff.1 hv).1
  obtain ⟨y, hy⟩ : ∃ y, Y.xs[i]? = some y := ⟨_, List.getElem?_eq_getElem (by omega)⟩
  obtain ⟨o, h⟩ := hs.oth ho
  rcases h i v y hv hy hi with ⟨-, e⟩ | ⟨-, -, -, -, e⟩
  · exact ⟨y, hy, by rw [← e]; exact h1, by rw [← e]; exact h2⟩
  · exact ⟨y, hy, by rw [e]; exact h1, by rw [e]; exact h2⟩
theorem pos_n {X : Dx} {w : World} (h : DevAt w X) (ho : okD X.p = true) : 0 < X.n ∧ X.n ≤ 64 := by
  obtain ⟨h1, -⟩ := (okD_dx h).1 ho
  obtain ⟨a, b, -⟩ := bounds_parts.1 h1
  exact ⟨by omega, by omega⟩

theorem XI.start2 {w wr : World} {X : Dx} (hb : Below w.heap.size w wr) (hd : DevAt wr X) (ho : okD X.p = true) (hn : X.n ≤ 1000) : XI w wr.heap.size X (wr.alloc (.cells #[.int .i64 X.cap, .int .i64 X.op, .int .i64 X.ac, .slice X.A X.n X.c] 25)) := by
  have b1 : Below wr.heap.size wr (wr.alloc (.cells #[.int .i64 X.cap, .int .i64 X.op, .int .i64 X.ac, .slice X.A X.n X.c] 25)) := (Below.refl _ wr).alloc (Nat.le_refl _) _
  refine ⟨hb.trans (b1.mono hb.size), DBox.new wr X, hd.below b1, ho, fun q o e h0 => ?_, hb.size, hn⟩
  obtain ⟨b, o', e', hbl, -⟩ := hd.row.at_ h0
  rw [e] at e'
  injection e' with e'
  injection e' with e1
  omega

/-- Two devices in blocks of their own that are the same; a zone of them has what it had; what the read of it told. -/
structure PI (w : World) (d : Dx) (gd gr gp gx gy i : Nat) (F : Int) (D : List B8) (B : Option Addr) (k : Nat) (X Y : Dx) (wr : World) : Prop where
  x : XI w gx X wr
  y : XI w gy Y wr
  eq : X.p = Y.p
  at_ : At X i F D
  n : X.n = d.n
  ax : ∀ q o, X.A = some ⟨q, o, none⟩ → 0 < X.n → q ≠ gy
  ay : ∀ q o, Y.A = some ⟨q, o, none⟩ → 0 < Y.n → q ≠ gx
  p : EBox wr gp 0 0 B D.length k
  pd : Row cb wr B D.length k D
  r : CBox wr gr 2 i F 0 D.length none 0 0
  d : DBox wr gd d
  o1 : gd < gr
  o2 : gr < gp
  o3 : gp < gx
  o4 : gx < gy
section
variable {w wr w' : World} {d X Y P Q : Dx} {gd gr gp gx gy i : Nat} {F : Int} {D : List B8} {B : Option Addr} {k : Nat}
theorem PI.below (h : PI w d gd gr gp gx gy i F D B k X Y wr) : Below w.heap.size w wr := h.x.below
theorem PI.to (h : PI w d gd gr gp gx gy i F D B k X Y wr) (hb : Below wr.heap.size wr w') : PI w d gd gr gp gx gy i F D B k X Y w' :=
  ⟨h.x.to hb, h.y.to hb, h.eq, h.at_, h.n, h.ax, h.ay, EBox.below h.p hb, h.pd.below hb, CBox.below h.r hb, h.d.below hb, h.o1, h.o2, h.o3, h.o4⟩
theorem PI.next (h : PI w d gd gr gp gx gy i F D B k X Y wr) (hP : DevAt wr P) (hQ : DevAt wr Q) (okP : okD P.p = true) (okQ : okD Q.p = true) (e : P.p = Q.p) (hA : At P i F D) (nP : P.n = X.n) (nQ : Q.n = Y.n)
    (aP : ∀ q o, P.A = some ⟨q, o, none⟩ → gy < q) (aQ : ∀ q o, Q.A = some ⟨q, o, none⟩ → gy < q) :
    PI w d gd gr gp gx gy i F D B k P Q ((((((((wr.setCell ⟨gx, 0, none⟩ (.int .i64 P.cap)).setCell ⟨gx, 1, none⟩ (.int .i64 P.op)).setCell ⟨gx, 2, none⟩ (.int .i64 P.ac)).setCell ⟨gx, 3, none⟩ (.slice P.A P.n P.c)).setCell ⟨gy, 0, none⟩ (.int .i64 Q.cap)).setCell ⟨gy, 1, none⟩ (.int .i64 Q.op)).setCell ⟨gy, 2, none⟩ (.int .i64 Q.ac)).setCell ⟨gy, 3, none⟩ (.slice Q.A Q.n Q.c)) := by
  have o1 := h.o1
  have o2 := h.o2
  have o3 := h.o3
  have o4 := h.o4
  have x1 := h.x.store hP okP (fun q o e => by have := aP q o e; omega) (by rw [nP]; exact h.x.small)
  have hb1 := But.set4 wr gx (.int .i64 P.cap) (.int .i64 P.op) (.int .i64 P.ac) (.slice P.A P.n P.c)
  have hQ1 := dev_but hQ h.x.box (dev_not _ _ _ _ _ _) hb1 (fun q o e => by have := aQ q o e; omega)
  have p1 := Cells.but h.p hb1 (by omega)
  have r1 := Cells.but h.r hb1 (by omega)
  have d1 := Cells.but h.d hb1 (by omega)
  have pd1 := Row.butBox h.pd h.x.box (dev_not _ _ _ _ _ _) hb1
  have y1 : XI w gy Y ((((wr.setCell ⟨gx, 0, none⟩ (.int .i64 P.cap)).setCell ⟨gx, 1, none⟩ (.int .i64 P.op)).setCell ⟨gx, 2, none⟩ (.int .i64 P.ac)).setCell ⟨gx, 3, none⟩ (.slice P.A P.n P.c)) :=
    ⟨x1.below, Cells.but h.y.box hb1 (by omega), ⟨RowS.butBlock h.y.dev.row h.ay hb1, fun y hy => Row.butBox (h.y.dev.data y hy) h.x.box (dev_not _ _ _ _ _ _) hb1⟩, h.y.ok, h.y.away, h.y.low, h.y.small⟩
  clear hb1
  generalize (((wr.setCell ⟨gx, 0, none⟩ (.int .i64 P.cap)).setCell ⟨gx, 1, none⟩ (.int .i64 P.op)).setCell ⟨gx, 2, none⟩ (.int .i64 P.ac)).setCell ⟨gx, 3, none⟩ (.slice P.A P.n P.c) = w1 at *
  have y2 := y1.store hQ1 okQ aQ (by rw [nQ]; exact h.y.small)
  have hb2 := But.set4 w1 gy (.int .i64 Q.cap) (.int .i64 Q.op) (.int .i64 Q.ac) (.slice Q.A Q.n Q.c)
  exact ⟨⟨y2.below, Cells.but x1.box hb2 (by omega), ⟨RowS.butBlock x1.dev.row (fun q o e _ => by have := aP q o e; omega) hb2, fun y hy => Row.butBox (x1.dev.data y hy) y1.box (dev_not _ _ _ _ _ _) hb2⟩, okP, x1.away, x1.low, x1.small⟩, y2, e, hA, nP.trans h.n,
    fun q o e _ => by have := aP q o e; omega, fun q o e _ => by have := aQ q o e; omega, Cells.but p1 hb2 (by omega), Row.butBox pd1 y1.box (dev_not _ _ _ _ _ _) hb2, Cells.but r1 hb2 (by omega), Cells.but d1 hb2 (by omega), o1, o2, o3, o4⟩
end
end Zns
end Go.Proofs.Ytbmblgjilmgkeaa
