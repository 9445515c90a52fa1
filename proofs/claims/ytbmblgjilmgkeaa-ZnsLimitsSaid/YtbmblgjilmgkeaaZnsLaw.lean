/-
  WHAT THE LAWS CARRY ALONG: a device in a block of its own; a command done; how a law begins.
-/
import Derived.Test.YtbmblgjilmgkeaaZnsDoCall
import Derived.Test.YtbmblgjilmgkeaaZnsFacts
import Derived.Test.YtbmblgjilmgkeaaZnsLive
import Derived.Test.YtbmblgjilmgkeaaZnsSame
import Derived.Test.YtbmblgjilmgkeaaZnsArgs
import Derived.Test.YtbmblgjilmgkeaaFrame
namespace Go.Proofs.Ytbmblgjilmgkeaa
open Go.ChangeShapes Go.WideShapes Go.ChangeAt Go.RowKit Mem Zon
namespace Zns

/-- zns.Do, as the laws ask it. -/
theorem do_law {X : Dx} {x : Cx} {w : World} (h : DevAt w X) (hn : X.n ≤ 1000) (hc : CmdAt w x) (hok : okD X.p = true) :
    Calls Try.prog 14 #[dxv X, cxv x] w fun e w' => ∃ (Y : Dx) (p : Ex), e = .returned (.tuple #[.agg #[.int .i64 Y.cap, .int .i64 Y.op, .int .i64 Y.ac, .slice Y.A Y.n Y.c], .agg #[.int .i64 p.p.e, .int .i64 p.p.at_, .slice p.B p.p.b.length p.k]]) ∧
      DevAt w' Y ∧ DoneAt w' p ∧ Y.p = (doP X.p x.c).1 ∧ p.p = (doP X.p x.c).2 ∧ Y.n = X.n ∧ Below w.heap.size w w' ∧ (∀ q o, Y.A = some ⟨q, o, none⟩ → w.heap.size ≤ q) := by
  refine (do_call h hn hc hok).mono fun e w' hD => ?_
  obtain ⟨A, c, xs, B, k, h1, h2, h3, h4, h5, h6⟩ := hD
  exact ⟨⟨X.cap, X.op, X.ac, A, X.n, c, xs⟩, ⟨(doP X.p x.c).2, B, k⟩, h1, h2, h4, h3, rfl, rfl, h5, h6⟩

/-- A device in block gx, that may be. -/
structure XI (w : World) (gx : Nat) (X : Dx) (wr : World) : Prop where
  below : Below w.heap.size w wr
  box : DBox wr gx X
  dev : DevAt wr X
  ok : okD X.p = true
  away : ∀ q o, X.A = some ⟨q, o, none⟩ → 0 < X.n → q ≠ gx
  low : w.heap.size ≤ gx
  small : X.n ≤ 1000
section
variable {w wr w' : World} {gx : Nat} {X Y : Dx}
theorem XI.to (h : XI w gx X wr) (hb : Below wr.heap.size wr w') : XI w gx X w' :=
  ⟨h.below.trans (hb.mono h.below.size), h.box.below hb, h.dev.below hb, h.ok, h.away, h.low, h.small⟩
theorem XI.start (hb : Below w.heap.size w wr) (hd : DevAt w X) (ho : okD X.p = true) (hn : X.n ≤ 1000) : XI w wr.heap.size X (wr.alloc (.cells #[.int .i64 X.cap, .int .i64 X.op, .int .i64 X.ac, .slice X.A X.n X.c] 25)) := by
  have b1 : Below wr.heap.size wr (wr.alloc (.cells #[.int .i64 X.cap, .int .i64 X.op, .int .i64 X.ac, .slice X.A X.n X.c] 25)) := (Below.refl _ wr).alloc (Nat.le_refl _) _
  refine ⟨hb.trans (b1.mono hb.size), DBox.new wr X, (hd.below hb).below b1, ho, fun q o e h0 => ?_, hb.size, hn⟩
  obtain ⟨b, o', e', hbl, -⟩ := hd.row.at_ h0
  rw [e] at e'
  injection e' with e'
  injection e' with e1
  have := hb.size
  omega
/-- Another device that may be is laid there. -/
theorem XI.store (h : XI w gx X wr) (hd : DevAt wr Y) (ho : okD Y.p = true) (ha : ∀ q o, Y.A = some ⟨q, o, none⟩ → gx < q) (hn : Y.n ≤ 1000) :
    XI w gx Y ((((wr.setCell ⟨gx, 0, none⟩ (.int .i64 Y.cap)).setCell ⟨gx, 1, none⟩ (.int .i64 Y.op)).setCell ⟨gx, 2, none⟩ (.int .i64 Y.ac)).setCell ⟨gx, 3, none⟩ (.slice Y.A Y.n Y.c)) := by
  have hb := But.set4 wr gx (.int .i64 Y.cap) (.int .i64 Y.op) (.int .i64 Y.ac) (.slice Y.A Y.n Y.c)
  have hnd := dev_not X.cap X.op X.ac X.A X.n X.c
  exact ⟨below4 h.below h.low _ _ _ _, Cells.set4 h.box _ _ _ _, ⟨RowS.butBlock hd.row (fun q o e _ => by have := ha q o e; omega) hb, fun y hy => Row.butBox (hd.data y hy) h.box hnd hb⟩, ho, fun q o e _ => by have := ha q o e; omega, h.low, hn⟩
end
/-- What a command left, seen from two devices in memory. -/
structure St (X : Dx) (c : Cm) (Y : Dx) (p : Dn) : Prop where
  ok : okD Y.p = true
  lv : Lv X.cap X.op X.ac (X.xs.map Zv.z) c (Y.xs.map Zv.z, p)
  same : p.e ≠ 0 → Y.p = X.p
  pure_ : Y.p = (doP X.p c).1
  ans : p = (doP X.p c).2
theorem st_of {X Y : Dx} {c : Cm} {p : Dn} (ho : okD X.p = true) (h1 : Y.p = (doP X.p c).1) (h2 : p = (doP X.p c).2) : St X c Y p := by
  obtain ⟨k1, k2, k3, k4, k5, k6, k7⟩ := do_left ho c
  have hz : Y.xs.map Zv.z = (stepP X.cap X.op X.ac (X.xs.map Zv.z) c).1 := by
    have := congrArg Dv.zs h1
    rw [k5] at this
    exact this
  have hp : p = (stepP X.cap X.op X.ac (X.xs.map Zv.z) c).2 := h2.trans k6
  refine ⟨by rw [h1]; exact k1, ?_, fun he => ?_, h1, h2⟩
  · rw [hz, hp]; exact k7
  · rw [hp] at he
    have := (k7.err he).1
    have e1 : Y.cap = X.cap := (congrArg Dv.cap h1).trans k2
    have e2 : Y.op = X.op := (congrArg Dv.op h1).trans k3
    have e3 : Y.ac = X.ac := (congrArg Dv.ac h1).trans k4
    unfold Dx.p
    rw [hz, e1, e2, e3]
    have h3 : (stepP X.cap X.op X.ac (X.xs.map Zv.z) c).1 = X.xs.map Zv.z := this
    rw [h3]
theorem St.n {X Y : Dx} {c : Cm} {p : Dn} {w : World} (h : St X c Y p) (hx : DevAt w X) (hy : DevAt w Y) : Y.n = X.n := by
  have := h.lv.len
  have h1 : (Y.xs.map Zv.z).length = (X.xs.map Zv.z).length := this
  rw [List.length_map, List.length_map, hx.row.len, hy.row.len] at h1
  exact h1
theorem St.fence {X Y : Dx} {c : Cm} {p : Dn} (ho : okD X.p = true) (h : St X c Y p) {i : Nat} {v yv : Zv} (hi : c.zone = (i : Int)) (hv : X.xs[i]? = some v) (hy : Y.xs[i]? = some yv) :
    (c.d = 7 → ((p.e = 0) ↔ v.z.fc < c.epoch) ∧ (p.e = 0 → yv.z.fc = c.epoch)) ∧ (c.d ≠ 7 → c.epoch ≠ v.z.fc → p.e ≠ 0) := by
  obtain ⟨k1, k2, k3, k4, k5, k6, k7⟩ := do_left ho c
  have hf := step_fence X.cap X.op X.ac c hi (zs := X.xs.map Zv.z) (z := v.z) (by rw [List.getElem?_map, hv]; rfl)
  have hp : p = (stepP X.cap X.op X.ac (X.xs.map Zv.z) c).2 := h.ans.trans k6
  have hz : Y.xs.map Zv.z = (stepP X.cap X.op X.ac (X.xs.map Zv.z) c).1 := by
    have := congrArg Dv.zs h.pure_
    rw [k5] at this
    exact this
  rw [← hp, ← hz] at hf
  refine ⟨fun h7 => ⟨(hf.1 h7).1, fun he => ?_⟩, hf.2⟩
  obtain ⟨z', h1, h2⟩ := (hf.1 h7).2 he
  rw [List.getElem?_map, hy] at h1
  injection h1 with h1
  have h1 : yv.z = z' := h1
  rw [h1]; exact h2
theorem St.fc {X Y : Dx} {c : Cm} {p : Dn} (h : St X c Y p) {a : Nat} {xv yv : Zv} (hx : X.xs[a]? = some xv) (hy : Y.xs[a]? = some yv) : xv.z.fc ≤ yv.z.fc :=
  h.lv.fc a xv.z yv.z (by rw [List.getElem?_map, hx]; rfl) (by show (Y.xs.map Zv.z)[a]? = _; rw [List.getElem?_map, hy]; rfl)
/-- A zone's cells. -/
theorem zone_cells {w W : World} {X : Dx} (h : DevAt w X) {i : Nat} {x : Zv} (hx : X.xs[i]? = some x) (hW : Below w.heap.size w W) :
    ∃ b o, X.A = some ⟨b, o, none⟩ ∧ b < w.heap.size ∧ W.cell? ⟨b, o + i * 3, none⟩ = some (.int .i64 x.z.st) ∧ W.cell? ⟨b, o + i * 3 + 1, none⟩ = some (.int .i64 x.z.fc) ∧ W.cell? ⟨b, o + i * 3 + 2, none⟩ = some (.slice x.D x.z.data.length x.c) := by
  obtain ⟨b, o, e, hb, hc⟩ := h.row.elem hx
  exact ⟨b, o, e, hb, hc W (hW.block b hb) 0 _ rfl, hc W (hW.block b hb) 1 _ rfl, hc W (hW.block b hb) 2 _ rfl⟩
end Zns
end Go.Proofs.Ytbmblgjilmgkeaa
