/-
  SEVERAL TEXTS IN ONE FILE: CooAct.
-/
import Derived.Test.YtcpkgcckjphbfaaGreatJ11
import Derived.Test.YtcpkgcckjphbfaaGreatJ13
/-
  WHAT ACTS HAVE IN COMMON: how they begin and end; nextEpoch; sums that fit.
-/
namespace Go.Proofs.YtcpkgcckjphbfaaGreat
open Go.RowKit Mem
namespace Coo
open Lea (Cells But OneBox Lv Tv)
open Spa (Sp)

theorem cells_ne {w : World} {p p' : Nat} {t t' : TypeId} {cs cs' : Array Value} (h : Cells w p t cs) (h' : Cells w p' t' cs') (ht : t ≠ t') : p ≠ p' := by
  intro e
  subst e
  unfold Cells at h h'
  rw [h] at h'
  injection h' with h'
  injection h' with _ h'
  exact ht h'
theorem Move.tail {base g p : Nat} {a b a' b' : Option Nat} {w w' w'' : World} (h : Move base g a b a' b' w w') (hb : But p w' w'') (hp : w.heap.size ≤ p) (h0 : base ≤ w.heap.size) : Move base g a b a' b' w w'' :=
  ⟨h.below.trans (hb.below (Nat.le_trans h0 h.size) (Nat.le_trans h0 hp)), fun k hk ho => by
    obtain ⟨h1, h2⟩ := h.keep k hk ho
    exact ⟨(hb.block (Nat.lt_of_lt_of_le hk h.size) (by omega)).trans h1, h2⟩⟩
theorem RowF.away {w w' : World} {p : Nat} {B : Option Addr} {n d : Nat} {l : List Fv} (h : RowF w B n d l) (hb : But p w w') (hp : ∀ k o, B = some ⟨k, o, none⟩ → k ≠ p) : RowF w' B n d l := RowS.keepBut h (fun q o e _ => hp q o e) hb
theorem acted_end {base g : Nat} {x x' : Cx} {w w9 : World} {r : Cv × An} {p : Nat} (hp : w.heap.size ≤ p) (h0 : base ≤ w.heap.size) (hx : x'.p = r.1) (hd : Desk base w9 g x') {e0 ep0 : Int} {B0 : Option Addr} {n0 d0 : Nat} (hn : ABox w9 p e0 ep0 B0 n0 d0)
    (hm : Move base g (oL x) (oW x) (oL x') (oW x') w w9) {B : Option Addr} {n d : Nat} (hr : RowF w9 B n d r.2.todo) (hB : ∀ k o, B = some ⟨k, o, none⟩ → w.heap.size ≤ k ∧ k ≠ p ∧ Off g (oL x') (oW x') k) {e ep : Int} (he : e = r.2.e) (hep : ep = r.2.epoch) :
    Acted base g x w r (.returned (anv e ep B n d)) (((w9.setCell ⟨p, 0, none⟩ (.int .i64 e)).setCell ⟨p, 1, none⟩ (.int .i64 ep)).setCell ⟨p, 2, none⟩ (.slice B n d)) := by
  subst he hep
  have hb := Lea.But.set3 w9 p (.int .i64 r.2.e) (.int .i64 r.2.epoch) (.slice B n d)
  exact ⟨x', B, n, d, rfl, hx, hd.but hn hb (by decide) (by decide) (by decide) (by decide), RowF.away hr hb (fun k o e => (hB k o e).2.1), fun k o e => ⟨(hB k o e).1, (hB k o e).2.2⟩, hm.tail hb hp h0⟩
theorem acted_bad {base g : Nat} {x : Cx} {w w9 : World} {p : Nat} (hp : w.heap.size ≤ p) (h0 : base ≤ w.heap.size) (hd : Desk base w9 g x) {e0 ep0 : Int} {B0 : Option Addr} {n0 d0 : Nat} (hn : ABox w9 p e0 ep0 B0 n0 d0)
    (hb : Below w.heap.size w w9) (e : Int) :
    Acted base g x w (bad x.p e) (.returned (anv e 0 none 0 0)) (((w9.setCell ⟨p, 0, none⟩ (.int .i64 e)).setCell ⟨p, 1, none⟩ (.int .i64 0)).setCell ⟨p, 2, none⟩ (.slice none 0 0)) :=
  acted_end hp h0 rfl hd hn (Move.of_below hb h0) (RowS.nil _ _ _) (fun k o e => by cases e) rfl rfl
/-- An event and an answer in blocks of their own. -/
theorem two_new (w : World) (e : Ev) :
    Hid (Below w.heap.size w ((w.alloc (.cells #[.int .i64 e.d, .int .i64 e.host, .int .i64 e.zone, .int .i64 e.epoch, .int .i64 e.fr, .int .i64 e.to, .int .i64 e.now, .int .i64 e.key] 36)).alloc (.cells #[.int .i64 0, .int .i64 0, .slice none 0 0] 39))) ∧
    Hid (EBox ((w.alloc (.cells #[.int .i64 e.d, .int .i64 e.host, .int .i64 e.zone, .int .i64 e.epoch, .int .i64 e.fr, .int .i64 e.to, .int .i64 e.now, .int .i64 e.key] 36)).alloc (.cells #[.int .i64 0, .int .i64 0, .slice none 0 0] 39)) w.heap.size e) ∧
    Hid (ABox ((w.alloc (.cells #[.int .i64 e.d, .int .i64 e.host, .int .i64 e.zone, .int .i64 e.epoch, .int .i64 e.fr, .int .i64 e.to, .int .i64 e.now, .int .i64 e.key] 36)).alloc (.cells #[.int .i64 0, .int .i64 0, .slice none 0 0] 39)) (w.heap.size + 1) 0 0 none 0 0) :=
  ⟨((Below.refl w.heap.size w).alloc (Nat.le_refl _) _).alloc (by simp) _, heap_alloc2_old w _ _, heap_alloc2_new w _ _⟩
/-! ### Sums that fit -/
theorem wrap_last {c : Cv} (h : Inv c) {N : Nat} (hb : Bd c N) (hN : N ≤ 100000) : IntKind.i64.wrap (c.t.last + 1) = c.t.last + 1 := by
  have := last0 h
  have := hb.last
  rw [IntKind.wrap_i64]; omega
theorem wrap_ttl {c : Cv} (h : Inv c) {N : Nat} (hb : Bd c N) : IntKind.i64.wrap (c.t.now + c.ttl) = c.t.now + c.ttl := by
  have := now0 h
  have := hb.now
  have := h.ttl1
  have := h.ttl2
  rw [IntKind.wrap_i64]; omega
theorem ttl_ok {c : Cv} (h : Inv c) : Lea.ttlB c.ttl = true := by
  have := h.ttl1
  have := h.ttl2
  unfold Lea.ttlB
  simp only [Bool.and_eq_true, decide_eq_true_eq]
  omega
theorem grantC_eq {c : Cv} (h : Inv c) {key host : Int} (hk : 0 ≤ key) (hh : hostB host = true) :
    grantC c key host = bif (Lea.grantP ⟨c.t.last, c.t.now, c.t.l⟩ key host c.ttl).2.2 != 0 then bad c (Lea.grantP ⟨c.t.last, c.t.now, c.t.l⟩ key host c.ttl).2.2 else (setT c (Lea.grantP ⟨c.t.last, c.t.now, c.t.l⟩ key host c.ttl).1, ⟨0, (Lea.grantP ⟨c.t.last, c.t.now, c.t.l⟩ key host c.ttl).2.1.epoch, []⟩) := by
  have hg : Lea.grantOk ⟨c.t.last, c.t.now, c.t.l⟩ key host c.ttl = true := by
    unfold Lea.grantOk
    rw [show Lea.okT ⟨c.t.last, c.t.now, c.t.l⟩ = true from h.tok, ttl_ok h, show Lea.hostB host = true from hh, decide_eq_false (by omega : ¬ key < 0)]
    rfl
  unfold Lea.grantP grantC
  rw [hg]
  rcases Lea.heldB c.t.l key <;> rfl

set_option maxRecDepth 100000 in
set_option maxHeartbeats 1600000 in
theorem nextEpoch_any {g : Nat} {x : Cx} {w : World} (h : KBox w g x) (hw : IntKind.i64.wrap (x.p.t.last + 1) = x.p.t.last + 1) :
    Calls Tryz.prog 63 #[.pointer (some ⟨g, 0, none⟩)] w fun e w' => e = .returned (.int .i64 (x.p.t.last + 1)) ∧ w' = w.setCell ⟨g, 0, none⟩ (.int .i64 (x.p.t.last + 1)) := by
  have K1 : Hid (Cells (w.setCell ⟨g, 0, none⟩ (.int .i64 (x.p.t.last + 1))) g 86 _) := Lea.Cells.set_ h 0 (.int .i64 (x.p.t.last + 1))
  have n0 : (w.setCell ⟨g, 0, none⟩ (.int .i64 (x.p.t.last + 1))).cell? ⟨g, 0, none⟩ = some (.int .i64 (x.p.t.last + 1)) := Lea.Cells.cell K1.out 0
  obtain ⟨m0, m1, m2, m3, m4, m5, m6⟩ := seven h
  have f0 := (seven_frozen h).1
  clear h K1
  go_enter Tryz.func63, Tryz.ntmps63
  go_upto_region 2 with fail
  generalize hw1 : w.setCell ⟨g, 0, none⟩ (.int .i64 (x.p.t.last + 1)) = w1 at *
  clear m0 m1 m2 m3 m4 m5 m6 f0
  go_wp2_with fail
  go_ret
  exact ⟨rfl, hw1.symm⟩
end Coo
end Go.Proofs.YtcpkgcckjphbfaaGreat
