/-
  SEVERAL TEXTS IN ONE FILE: CooMath, Frame, Open, RowS, Reg.
-/
import Derived.Test.YtmflngclncidjaaGreatJ01
import Derived.Test.YtmflngclncidjaaGreatJ02
import Derived.Test.YtmflngclncidjaaGreatRows
import Derived.WalkKit
import Derived.ProofKit
import Derived.OpenShut
import Derived.ShutString
import Derived.ChangeOld
import Derived.Below
import Derived.SizedLaws
import Derived.Deep.Fields
import Derived.Deep.Slices
import Derived.Deep.RegionHeld3
/-
  coord IN PLAIN: coordinators, events, answers, and what each event comes to.
-/
namespace Go.Proofs.YtmflngclncidjaaGreat
open Go.RowKit Mem
namespace Coo
open Lea (Lv Tv)
open Spa (Sp)

structure Fv where
  zone : Int
  host : Int
  epoch : Int
def zF : Fv := ⟨0, 0, 0⟩
structure Cv where
  t : Tv
  s : List Sp
  wt : List Fv
  ttl : Int
  zones : Int
structure Ev where
  d : Int
  host : Int
  zone : Int
  epoch : Int
  fr : Int
  to : Int
  now : Int
  key : Int
structure An where
  e : Int
  epoch : Int
  todo : List Fv
def hostB (h : Int) : Bool := decide (0 ≤ h) && decide (h < 8)
theorem hostB_iff {h : Int} : hostB h = true ↔ 0 ≤ h ∧ h < 8 := by unfold hostB; simp only [Bool.and_eq_true, decide_eq_true_eq]
theorem hostB_lea (h : Int) : Lea.hostB h = hostB h := rfl
theorem hostB_spa (h : Int) : Spa.hostB h = hostB h := rfl
def zoneB (c : Cv) (z : Int) : Bool := decide (0 ≤ z) && decide (z < c.zones)
theorem zoneB_iff {c : Cv} {z : Int} : zoneB c z = true ↔ 0 ≤ z ∧ z < c.zones := by unfold zoneB; simp only [Bool.and_eq_true, decide_eq_true_eq]
def memL (l : List Lv) (h : Int) : Bool := hostB h && Lea.heldB l (2000 + h)
def memB (c : Cv) (h : Int) : Bool := memL c.t.l h
def ownL (l : List Lv) (key : Int) : Int × Int := bif Lea.heldB l key then ((Lea.getL l key).host, (Lea.getL l key).epoch) else (-1, 0)
def ownerC (c : Cv) (z : Int) : Int × Int := bif zoneB c z then ownL c.t.l z else (-1, 0)
def setT (c : Cv) (t : Tv) : Cv := ⟨t, c.s, c.wt, c.ttl, c.zones⟩
def bad (c : Cv) (e : Int) : Cv × An := (c, ⟨e, 0, []⟩)
def grantC (c : Cv) (key host : Int) : Cv × An :=
  bif Lea.heldB c.t.l key then bad c 60 else (setT c ⟨c.t.last + 1, c.t.now, Lea.putL c.t.l key ⟨key, host, c.t.last + 1, c.t.now + c.ttl⟩⟩, ⟨0, c.t.last + 1, []⟩)
def joinC (c : Cv) (e : Ev) : Cv × An := grantC c (2000 + e.host) e.host
def electC (c : Cv) (e : Ev) : Cv × An := bif memB c e.host then grantC c 1000 e.host else bad c 4
def inW (z : Int) (f : Fv) : Bool := f.zone == z
def awayB (c : Cv) (z : Int) : Bool := Lea.heldB c.t.l z || c.wt.any (inW z)
def moreT (c : Cv) : Tv := ⟨c.t.last + 1, c.t.now, c.t.l⟩
def askF (c : Cv) (e : Ev) : Fv := ⟨e.zone, e.host, c.t.last + 1⟩
def askC (c : Cv) (e : Ev) : Cv × An :=
  bif zoneB c e.zone then (bif memB c e.host then (bif awayB c e.zone then bad c 60 else (⟨moreT c, c.s, c.wt ++ [askF c e], c.ttl, c.zones⟩, ⟨0, c.t.last + 1, [askF c e]⟩)) else bad c 4) else bad c 1
def isF (z ep : Int) (f : Fv) : Bool := f.zone == z && f.epoch == ep
def ackV (c : Cv) (e : Ev) : Lv := ⟨e.zone, e.host, e.epoch, c.t.now + c.ttl⟩
def ackTo (c : Cv) (e : Ev) (i : Nat) : Cv := ⟨⟨c.t.last, c.t.now, Lea.putL c.t.l e.zone (ackV c e)⟩, c.s, c.wt.take i ++ c.wt.drop (i + 1), c.ttl, c.zones⟩
def ackC (c : Cv) (e : Ev) : Cv × An :=
  match c.wt.findIdx? (isF e.zone e.epoch) with
  | none => bad c 4
  | some i => bif (c.wt.getD i zF).host == e.host then (ackTo c e i, ⟨0, e.epoch, []⟩) else bad c 61
def other (h : Int) (s : Sp) : Bool := s.own != -1 && s.own != h
def giveTo (c : Cv) (e : Ev) : Cv := ⟨moreT c, Spa.giveS c.s e.fr e.to e.host (c.t.last + 1), c.wt, c.ttl, c.zones⟩
def giveC (c : Cv) (e : Ev) : Cv × An :=
  bif memB c e.host then (bif Spa.rangeB c.s e.fr e.to then (bif (Spa.partsS c.s e.fr e.to).any (other e.host) then bad c 60 else (giveTo c e, ⟨0, c.t.last + 1, []⟩)) else bad c 1) else bad c 4
def notBy (h : Int) (f : Fv) : Bool := !(f.host == h)
def endC (c : Cv) (key : Int) : Cv := bif hostB (key - 2000) then ⟨c.t, Spa.takeS c.s (key - 2000), c.wt.filter (notBy (key - 2000)), c.ttl, c.zones⟩ else c
def endsC (c : Cv) (l : List Lv) : Cv := l.foldl (fun c x => endC c x.key) c
def tickT (c : Cv) (now : Int) : Tv := ⟨c.t.last, now, c.t.l.filter (fun x => !decide (x.til ≤ now))⟩
def overL (c : Cv) (now : Int) : List Lv := c.t.l.filter (fun x => decide (x.til ≤ now))
def tickC (c : Cv) (e : Ev) : Cv × An :=
  bif decide (e.now < c.t.now) then bad c 1 else (endsC (setT c (tickT c e.now)) (overL c e.now), ⟨0, 0, []⟩)
def hasNot (c : Cv) (e : Ev) : Bool := (Lea.getL c.t.l e.key).host != e.host || (Lea.getL c.t.l e.key).epoch != e.epoch
def renewC (c : Cv) (e : Ev) : Cv × An :=
  bif Lea.heldB c.t.l e.key then (bif hasNot c e then bad c 61 else (setT c ⟨c.t.last, c.t.now, Lea.setK c.t.l e.key (Lea.longer c.t c.ttl)⟩, ⟨0, 0, []⟩)) else bad c 4
def leaveC (c : Cv) (e : Ev) : Cv × An :=
  bif Lea.heldB c.t.l e.key then (bif hasNot c e then bad c 61 else (endC (setT c ⟨c.t.last, c.t.now, Lea.butK c.t.l e.key⟩) e.key, ⟨0, 0, []⟩)) else bad c 4
def knownB (d : Int) : Bool := decide (1 ≤ d) && decide (d ≤ 8)
def actC (c : Cv) (e : Ev) : Cv × An :=
  bif e.d == 1 then joinC c e else bif e.d == 2 then askC c e else bif e.d == 3 then ackC c e else bif e.d == 4 then giveC c e else
  bif e.d == 5 then electC c e else bif e.d == 6 then tickC c e else bif e.d == 7 then renewC c e else leaveC c e
def mayE (e : Ev) : Bool := knownB e.d && (e.d == 6 || hostB e.host)
def doC (c : Cv) (e : Ev) : Cv × An := bif mayE e then actC c e else bad c 1
def allC (c : Cv) : List Ev → Cv × List An
  | [] => (c, [])
  | e :: r => ((allC (doC c e).1 r).1, (doC c e).2 :: (allC (doC c e).1 r).2)
def newC (zones blocks ttl : Int) : Cv := ⟨⟨0, 0, []⟩, [⟨0, blocks, -1, 0⟩], [], ttl, zones⟩

/-! ### What holds of those that calls told -/
structure Inv (c : Cv) : Prop where
  tok : Lea.okT c.t = true
  sok : Spa.okS c.s = true
  ttl1 : 1 ≤ c.ttl
  ttl2 : c.ttl ≤ 1073741824
  z1 : 1 ≤ c.zones
  z2 : c.zones ≤ 64
  keys : ∀ x ∈ c.t.l, (0 ≤ x.key ∧ x.key < c.zones) ∨ x.key = 1000 ∨ x.key = 2000 + x.host
  own : ∀ k o p, Spa.who c.s k = some (o, p) → o = -1 ∨ (memB c o = true ∧ p ≤ c.t.last)
  wait : ∀ f ∈ c.wt, memB c f.host = true ∧ 1 ≤ f.epoch ∧ f.epoch ≤ c.t.last ∧ zoneB c f.zone = true ∧ Lea.heldB c.t.l f.zone = false ∧ ∀ x ∈ c.t.l, x.epoch ≠ f.epoch
  apart : c.wt.Pairwise (fun f g => f.zone ≠ g.zone ∧ f.epoch ≠ g.epoch)
structure Bd (c : Cv) (N : Nat) : Prop where
  last : c.t.last ≤ N
  len : c.t.l.length ≤ N
  wlen : c.wt.length ≤ N
  now : c.t.now ≤ 1152921504606846976
  blocks : Spa.endF 0 c.s ≤ 400000
theorem Bd.mono {c : Cv} {N M : Nat} (h : Bd c N) (hm : N ≤ M) : Bd c M := ⟨by have := h.last; omega, by have := h.len; omega, by have := h.wlen; omega, h.now, h.blocks⟩
theorem hosts {c : Cv} (h : Inv c) {x : Lv} (hx : x ∈ c.t.l) : 0 ≤ x.host ∧ x.host < 8 := (Lea.mayB_iff.1 (Lea.okT_may h.tok hx)).2.1
theorem ch_len {l : List Sp} {e e' : Int} (h : Spa.Ch e l e') : (l.length : Int) ≤ e' - e := by
  induction l generalizing e with
  | nil => have : e = e' := h; simp; omega
  | cons s r ih =>
    obtain ⟨h1, h2, h3⟩ := h
    have := ih h3
    simp only [List.length_cons]
    omega
theorem Inv.slen {c : Cv} (h : Inv c) {N : Nat} (hb : Bd c N) : c.s.length ≤ 400000 := by
  have h1 := ch_len (Spa.ok_ch h.sok)
  have h2 := hb.blocks
  omega
theorem memL_iff {l : List Lv} {h : Int} : memL l h = true ↔ (0 ≤ h ∧ h < 8) ∧ ∃ x ∈ l, x.key = 2000 + h := by
  unfold memL; rw [Bool.and_eq_true, hostB_iff, Lea.held_iff]
/-! ### A member stays one, but by its lease's end -/
theorem held_sub {l r : List Lv} {key : Int} (h : ∀ x ∈ l, x.key = key → ∃ y ∈ r, y.key = key) (hh : Lea.heldB l key = true) : Lea.heldB r key = true := by
  obtain ⟨x, hx, e⟩ := Lea.held_iff.1 hh
  exact Lea.held_iff.2 (h x hx e)
theorem mem_sub {l r : List Lv} {h : Int} (hs : ∀ x ∈ l, x.key = 2000 + h → ∃ y ∈ r, y.key = 2000 + h) (hm : memL l h = true) : memL r h = true := by
  unfold memL at *
  rw [Bool.and_eq_true] at *
  exact ⟨hm.1, held_sub hs hm.2⟩
theorem mem_put {l : List Lv} {key h : Int} {x : Lv} (hr : Lea.Rises l) (hh : Lea.heldB l key = false) (hm : memL l h = true) : memL (Lea.putL l key x) h = true :=
  mem_sub (fun y hy e => ⟨y, (Lea.putL_mem hr hh).2 (.inr hy), e⟩) hm
theorem held_put {l : List Lv} {key k : Int} {x : Lv} (hr : Lea.Rises l) (hh : Lea.heldB l key = false) (hx : x.key = key) (hne : k ≠ key) : Lea.heldB (Lea.putL l key x) k = Lea.heldB l k := by
  rw [Lea.find_held, Lea.find_held, Lea.find_put_other hr hh hx (Ne.symm hne)]
theorem held_set {l : List Lv} {key k : Int} {f : Lv → Lv} (hf : ∀ x, (f x).key = x.key) : Lea.heldB (Lea.setK l key f) k = Lea.heldB l k := by
  rw [Lea.find_held, Lea.find_held, Lea.find_set hf]
  rcases Lea.findL l k <;> rfl
theorem mem_set {l : List Lv} {key h : Int} {f : Lv → Lv} (hf : ∀ x, (f x).key = x.key) : memL (Lea.setK l key f) h = memL l h := by
  unfold memL; rw [held_set hf]
/-! ### One act's end: a grant -/
theorem okT_put {t : Tv} {key last : Int} {x : Lv} (hok : Lea.okT t = true) (hh : Lea.heldB t.l key = false) (hx : x.key = key) (hl : t.last ≤ last) (hm : Lea.mayB last t.now x = true) (hd : ∀ y ∈ t.l, y.epoch ≠ x.epoch) : Lea.okT ⟨last, t.now, Lea.putL t.l key x⟩ = true := by
  obtain ⟨h1, h2, h3, h4, h5⟩ := Lea.okT_iff.1 hok
  refine Lea.okT_iff.2 ⟨by show (0 : Int) ≤ last; omega, h2, Lea.putL_rises h3 hx, Lea.putL_differ h3 hh h4 hd, fun y hy => ?_⟩
  rcases (Lea.putL_mem h3 hh).1 hy with rfl | hy
  · exact hm
  · have h6 := Lea.mayB_iff.1 (h5 y hy)
    exact Lea.mayB_of (h5 y hy) hl (by show t.now < _; omega)
theorem last0 {c : Cv} (h : Inv c) : 0 ≤ c.t.last := (Lea.okT_iff.1 h.tok).1
theorem now0 {c : Cv} (h : Inv c) : 0 ≤ c.t.now := (Lea.okT_iff.1 h.tok).2.1
theorem epochs {c : Cv} (h : Inv c) {x : Lv} (hx : x ∈ c.t.l) : 1 ≤ x.epoch ∧ x.epoch ≤ c.t.last := by
  have := Lea.mayB_iff.1 (Lea.okT_may h.tok hx); omega
/-- A key that is granted: a zone's that no fence is asked for, the cleaner's, a member's. -/
theorem put_inv {c : Cv} (h : Inv c) {key host : Int} (hh : Lea.heldB c.t.l key = false) (hho : 0 ≤ host ∧ host < 8) (hk : key = 1000 ∨ key = 2000 + host) :
    Inv (setT c ⟨c.t.last + 1, c.t.now, Lea.putL c.t.l key ⟨key, host, c.t.last + 1, c.t.now + c.ttl⟩⟩) := by
  have hr := Lea.okT_rises h.tok
  have h0 := last0 h
  refine ⟨okT_put h.tok hh rfl (by omega) (Lea.mayB_iff.2 ?_) ?_, h.sok, h.ttl1, h.ttl2, h.z1, h.z2, ?_, ?_, ?_, h.apart⟩
  · have := h.ttl1
    show 0 ≤ key ∧ (0 ≤ host ∧ host < 8) ∧ 1 ≤ c.t.last + 1 ∧ c.t.last + 1 ≤ c.t.last + 1 ∧ c.t.now < c.t.now + c.ttl
    omega
  · intro y hy
    have := epochs h hy
    show y.epoch ≠ c.t.last + 1
    omega
  · intro x hx
    rcases (Lea.putL_mem hr hh).1 hx with rfl | hx
    · exact .inr hk
    · exact h.keys x hx
  · intro k o p e
    rcases h.own k o p e with h1 | ⟨h1, h2⟩
    · exact .inl h1
    · exact .inr ⟨mem_put hr hh h1, by show p ≤ c.t.last + 1; omega⟩
  · intro f hf
    obtain ⟨h1, h2, h3, h4, h5, h6⟩ := h.wait f hf
    have hz := zoneB_iff.1 h4
    have := h.z2
    refine ⟨mem_put hr hh h1, h2, by show _ ≤ c.t.last + 1; omega, h4, ?_, ?_⟩
    · show Lea.heldB (Lea.putL c.t.l key _) f.zone = false
      rw [held_put hr hh rfl (by omega)]; exact h5
    · intro x hx
      rcases (Lea.putL_mem hr hh).1 hx with rfl | hx
      · show c.t.last + 1 ≠ _; omega
      · exact h6 x hx
theorem grant_inv {c : Cv} (h : Inv c) {key host : Int} (hho : 0 ≤ host ∧ host < 8) (hk : key = 1000 ∨ key = 2000 + host) : Inv (grantC c key host).1 := by
  unfold grantC
  rcases e : Lea.heldB c.t.l key
  · exact put_inv h e hho hk
  · exact h
theorem mem_more {c : Cv} (h : Inv c) : Lea.okT (moreT c) = true := Lea.okT_more h.tok (by omega)
theorem ask_inv {c : Cv} (h : Inv c) (e : Ev) : Inv (askC c e).1 := by
  unfold askC
  rcases e1 : zoneB c e.zone
  · exact h
  rcases e2 : memB c e.host
  · exact h
  rcases e3 : awayB c e.zone
  · have h0 := last0 h
    unfold awayB at e3
    rw [Bool.or_eq_false_iff] at e3
    have hw : ∀ f ∈ c.wt, f.zone ≠ e.zone := fun f hf => by simpa [inW] using List.any_eq_false.1 e3.2 f hf
    refine ⟨mem_more h, h.sok, h.ttl1, h.ttl2, h.z1, h.z2, h.keys, ?_, ?_, ?_⟩
    · intro k o p e
      rcases h.own k o p e with h1 | ⟨h1, h2⟩
      · exact .inl h1
      · exact .inr ⟨h1, by show p ≤ c.t.last + 1; omega⟩
    · intro f hf
      rcases List.mem_append.1 hf with hf | hf
      · obtain ⟨h1, h2, h3, h4⟩ := h.wait f hf
        exact ⟨h1, h2, by show _ ≤ c.t.last + 1; omega, h4⟩
      · rw [List.mem_singleton.1 hf]
        refine ⟨e2, by show 1 ≤ c.t.last + 1; omega, Int.le_refl _, e1, e3.1, fun x hx => ?_⟩
        have := epochs h hx
        show x.epoch ≠ c.t.last + 1; omega
    · refine List.pairwise_append.2 ⟨h.apart, List.pairwise_singleton _ _, fun a ha b hb => ?_⟩
      rw [List.mem_singleton.1 hb]
      refine ⟨hw a ha, ?_⟩
      have := (h.wait a ha).2.2.1
      show a.epoch ≠ c.t.last + 1; omega
  · exact h
theorem take_drop_sub {l : List Fv} {i : Nat} : (l.take i ++ l.drop (i + 1)).Sublist l := by
  rw [← List.eraseIdx_eq_take_drop_succ]; exact List.eraseIdx_sublist ..
theorem apart_but {l : List Fv} (h : l.Pairwise (fun f g => f.zone ≠ g.zone ∧ f.epoch ≠ g.epoch)) {i : Nat} {f : Fv} (hf : l[i]? = some f) : ∀ g ∈ l.take i ++ l.drop (i + 1), g.zone ≠ f.zone ∧ g.epoch ≠ f.epoch := by
  obtain ⟨hi, rfl⟩ := List.getElem?_eq_some_iff.1 hf
  intro g hg
  rcases List.mem_append.1 hg with hg | hg
  · obtain ⟨j, hj⟩ := List.mem_iff_getElem?.1 hg
    rw [List.getElem?_take] at hj
    split at hj
    · obtain ⟨hjl, rfl⟩ := List.getElem?_eq_some_iff.1 hj
      exact List.pairwise_iff_getElem.1 h j i hjl hi (by assumption)
    · cases hj
  · obtain ⟨j, hj⟩ := List.mem_iff_getElem?.1 hg
    rw [List.getElem?_drop] at hj
    obtain ⟨hjl, rfl⟩ := List.getElem?_eq_some_iff.1 hj
    have := List.pairwise_iff_getElem.1 h i (i + 1 + j) hi hjl (by omega)
    exact ⟨Ne.symm this.1, Ne.symm this.2⟩
theorem ack_find {c : Cv} {e : Ev} {i : Nat} (hi : c.wt.findIdx? (isF e.zone e.epoch) = some i) : ∃ f, c.wt[i]? = some f ∧ f.zone = e.zone ∧ f.epoch = e.epoch ∧ c.wt.getD i zF = f := by
  obtain ⟨h1, h2, -⟩ := List.findIdx?_eq_some_iff_getElem.1 hi
  unfold isF at h2
  simp only [Bool.and_eq_true, beq_iff_eq] at h2
  refine ⟨_, List.getElem?_eq_getElem h1, h2.1, h2.2, ?_⟩
  simp [List.getD, List.getElem?_eq_getElem h1]
theorem ackTo_inv {c : Cv} (h : Inv c) (e : Ev) {i : Nat} (hi : c.wt.findIdx? (isF e.zone e.epoch) = some i) (hho : (c.wt.getD i zF).host = e.host) : Inv (ackTo c e i) := by
  have hr := Lea.okT_rises h.tok
  obtain ⟨f, hf, e1, e2, e3⟩ := ack_find hi
  rw [e3] at hho
  have hfm := List.mem_of_getElem? hf
  obtain ⟨w1, w2, w3, w4, w5, w6⟩ := h.wait f hfm
  have hz := zoneB_iff.1 w4
  have hmm := memL_iff.1 w1
  have hb := apart_but h.apart hf
  rw [e1] at w5 hz hb
  rw [e2] at w6 w2 w3 hb
  have := h.ttl1
  refine ⟨okT_put h.tok w5 rfl (Int.le_refl _) (Lea.mayB_iff.2 ?_) ?_, h.sok, h.ttl1, h.ttl2, h.z1, h.z2, ?_, ?_, ?_, List.Pairwise.sublist take_drop_sub h.apart⟩
  · show 0 ≤ e.zone ∧ (0 ≤ e.host ∧ e.host < 8) ∧ 1 ≤ e.epoch ∧ e.epoch ≤ c.t.last ∧ c.t.now < c.t.now + c.ttl
    omega
  · exact w6
  · intro x hx
    rcases (Lea.putL_mem hr w5).1 hx with rfl | hx
    · exact .inl hz
    · exact h.keys x hx
  · intro k o p e
    rcases h.own k o p e with h1 | ⟨h1, h2⟩
    · exact .inl h1
    · exact .inr ⟨mem_put hr w5 h1, h2⟩
  · intro g hg
    obtain ⟨b1, b2⟩ := hb g hg
    obtain ⟨h1, h2, h3, h4, h5, h6⟩ := h.wait g (take_drop_sub.subset hg)
    refine ⟨mem_put hr w5 h1, h2, h3, h4, ?_, ?_⟩
    · show Lea.heldB (Lea.putL c.t.l e.zone _) g.zone = false
      rw [held_put hr w5 rfl b1]; exact h5
    · intro x hx
      rcases (Lea.putL_mem hr w5).1 hx with rfl | hx
      · exact Ne.symm b2
      · exact h6 x hx
theorem ack_inv {c : Cv} (h : Inv c) (e : Ev) : Inv (ackC c e).1 := by
  unfold ackC
  rcases hi : c.wt.findIdx? (isF e.zone e.epoch) with _ | i
  · exact h
  · simp only
    rcases e1 : ((c.wt.getD i zF).host == e.host)
    · exact h
    · exact ackTo_inv h e hi (by simpa using e1)
theorem give_inv {c : Cv} (h : Inv c) (e : Ev) : Inv (giveC c e).1 := by
  unfold giveC
  rcases e1 : memB c e.host
  · exact h
  rcases e2 : Spa.rangeB c.s e.fr e.to
  · exact h
  rcases e3 : (Spa.partsS c.s e.fr e.to).any (other e.host)
  · have h0 := last0 h
    have hm := memL_iff.1 e1
    obtain ⟨r1, r2, r3, r4⟩ := Spa.rangeB_iff.1 e2
    refine ⟨mem_more h, (Spa.giveS_ok e2 (Spa.mayOwn_iff.2 (.inr ?_))).1, h.ttl1, h.ttl2, h.z1, h.z2, h.keys, ?_, ?_, h.apart⟩
    · omega
    · intro k o p e4'
      have e4 : Spa.who (giveTo c e).s k = some (o, p) := e4'
      rw [show Spa.who (giveTo c e).s k = _ from Spa.giveS_who (Spa.ok_ch h.sok) r2 r3 r4 k] at e4
      split at e4
      · injection e4 with e4
        injection e4 with e5 e6
        subst e5 e6
        exact .inr ⟨e1, Int.le_refl _⟩
      · rcases h.own k o p e4 with h1 | ⟨h1, h2⟩
        · exact .inl h1
        · exact .inr ⟨h1, by show p ≤ c.t.last + 1; omega⟩
    · intro f hf
      obtain ⟨h1, h2, h3, h4⟩ := h.wait f hf
      exact ⟨h1, h2, by show _ ≤ c.t.last + 1; omega, h4⟩
  · exact h
theorem renew_inv {c : Cv} (h : Inv c) (e : Ev) : Inv (renewC c e).1 := by
  unfold renewC
  rcases e1 : Lea.heldB c.t.l e.key
  · exact h
  rcases e2 : hasNot c e
  · have hf : ∀ x, (Lea.longer c.t c.ttl x).key = x.key := fun _ => rfl
    have hmem : ∀ y ∈ Lea.setK c.t.l e.key (Lea.longer c.t c.ttl), ∃ x ∈ c.t.l, y.key = x.key ∧ y.host = x.host ∧ y.epoch = x.epoch := by
      intro y hy
      unfold Lea.setK at hy
      obtain ⟨x, hx, rfl⟩ := List.mem_map.1 hy
      refine ⟨x, hx, ?_⟩
      rcases x.key == e.key <;> exact ⟨rfl, rfl, rfl⟩
    refine ⟨Lea.okT_set h.tok, h.sok, h.ttl1, h.ttl2, h.z1, h.z2, ?_, ?_, ?_, h.apart⟩
    · intro y hy
      obtain ⟨x, hx, a, b, -⟩ := hmem y hy
      rw [a, b]; exact h.keys x hx
    · intro k o p e
      rcases h.own k o p e with h1 | ⟨h1, h2⟩
      · exact .inl h1
      · exact .inr ⟨by show memL (Lea.setK _ _ _) o = true; rw [mem_set hf]; exact h1, h2⟩
    · intro f hfm
      obtain ⟨h1, h2, h3, h4, h5, h6⟩ := h.wait f hfm
      refine ⟨by show memL (Lea.setK _ _ _) _ = true; rw [mem_set hf]; exact h1, h2, h3, h4, by show Lea.heldB (Lea.setK _ _ _) _ = false; rw [held_set hf]; exact h5, fun y hy => ?_⟩
      obtain ⟨x, hx, -, -, b⟩ := hmem y hy
      rw [b]; exact h6 x hx
  · exact h
/-! ### What comes with leases' ends -/
theorem endC_t (c : Cv) (key : Int) : (endC c key).t = c.t ∧ (endC c key).ttl = c.ttl ∧ (endC c key).zones = c.zones := by
  unfold endC; rcases hostB (key - 2000) <;> exact ⟨rfl, rfl, rfl⟩
theorem endsC_cons (c : Cv) (x : Lv) (r : List Lv) : endsC c (x :: r) = endsC (endC c x.key) r := rfl
theorem endsC_t (l : List Lv) (c : Cv) : (endsC c l).t = c.t ∧ (endsC c l).ttl = c.ttl ∧ (endsC c l).zones = c.zones := by
  induction l generalizing c with
  | nil => exact ⟨rfl, rfl, rfl⟩
  | cons x r ih =>
    rw [endsC_cons]
    have h1 := ih (endC c x.key)
    have h2 := endC_t c x.key
    exact ⟨h1.1.trans h2.1, h1.2.1.trans h2.2.1, h1.2.2.trans h2.2.2⟩
theorem endC_s {c : Cv} (hs : Spa.okS c.s = true) (key : Int) : Spa.okS (endC c key).s = true ∧ Spa.endF 0 (endC c key).s = Spa.endF 0 c.s ∧
    ∀ k o p, Spa.who (endC c key).s k = some (o, p) → o = -1 ∨ (Spa.who c.s k = some (o, p) ∧ (hostB (key - 2000) = true → o ≠ key - 2000)) := by
  unfold endC
  rcases e : hostB (key - 2000)
  · exact ⟨hs, rfl, fun k o p h => .inr ⟨h, fun h => by cases h⟩⟩
  · refine ⟨Spa.takeS_ok hs _, (Spa.takeS_ch (Spa.ok_ch hs) _).end_, fun k o p h' => ?_⟩
    have h : Spa.who (Spa.takeS c.s (key - 2000)) k = some (o, p) := h'
    rw [show Spa.who (Spa.takeS c.s (key - 2000)) k = _ from Spa.takeS_who (Spa.ok_ch hs) (key - 2000) k] at h
    obtain ⟨x, hx, h2⟩ := Option.map_eq_some_iff.1 h
    rcases e2 : (x.1 == key - 2000)
    · rw [e2] at h2
      have h2 : x = (o, p) := h2
      subst h2
      exact .inr ⟨hx, fun _ => by simpa using e2⟩
    · rw [e2] at h2
      have h2 : ((-1 : Int), (0 : Int)) = (o, p) := h2
      injection h2 with h2 h3
      exact .inl h2.symm
theorem endsC_s (l : List Lv) {c : Cv} (hs : Spa.okS c.s = true) : Spa.okS (endsC c l).s = true ∧ Spa.endF 0 (endsC c l).s = Spa.endF 0 c.s ∧
    ∀ k o p, Spa.who (endsC c l).s k = some (o, p) → o = -1 ∨ (Spa.who c.s k = some (o, p) ∧ ∀ x ∈ l, hostB (x.key - 2000) = true → o ≠ x.key - 2000) := by
  induction l generalizing c with
  | nil => exact ⟨hs, rfl, fun k o p h => .inr ⟨h, fun x hx => by cases hx⟩⟩
  | cons x r ih =>
    rw [endsC_cons]
    obtain ⟨a1, a2, a3⟩ := endC_s hs x.key
    obtain ⟨b1, b2, b3⟩ := ih a1
    refine ⟨b1, b2.trans a2, fun k o p h => ?_⟩
    rcases b3 k o p h with h1 | ⟨h1, h2⟩
    · exact .inl h1
    · rcases a3 k o p h1 with h3 | ⟨h3, h4⟩
      · exact .inl h3
      · refine .inr ⟨h3, fun y hy => ?_⟩
        rcases List.mem_cons.1 hy with rfl | hy
        · exact h4
        · exact h2 y hy
theorem endC_w (c : Cv) (key : Int) : (endC c key).wt.Sublist c.wt ∧ ∀ f ∈ (endC c key).wt, hostB (key - 2000) = true → f.host ≠ key - 2000 := by
  unfold endC
  rcases e : hostB (key - 2000)
  · exact ⟨List.Sublist.refl _, fun f _ h => by cases h⟩
  · refine ⟨List.filter_sublist, fun f hf _ => ?_⟩
    have := (List.mem_filter.1 (show f ∈ List.filter _ _ from hf)).2
    simpa [notBy] using this
theorem endsC_w (l : List Lv) (c : Cv) : (endsC c l).wt.Sublist c.wt ∧ ∀ f ∈ (endsC c l).wt, ∀ x ∈ l, hostB (x.key - 2000) = true → f.host ≠ x.key - 2000 := by
  induction l generalizing c with
  | nil => exact ⟨List.Sublist.refl _, fun f _ x hx => by cases hx⟩
  | cons x r ih =>
    rw [endsC_cons]
    obtain ⟨a1, a2⟩ := endC_w c x.key
    obtain ⟨b1, b2⟩ := ih (endC c x.key)
    refine ⟨b1.trans a1, fun f hf y hy => ?_⟩
    rcases List.mem_cons.1 hy with rfl | hy
    · exact a2 f (b1.subset hf)
    · exact b2 f hf y hy
/-- Leases that are left, and what comes with the ends of the others. -/
theorem less_inv {c : Cv} (h : Inv c) {t : Tv} {l : List Lv} (hok : Lea.okT t = true) (hl : t.last = c.t.last) (hsub : ∀ x ∈ t.l, x ∈ c.t.l) (hover : ∀ x ∈ c.t.l, x ∈ t.l ∨ x ∈ l) : Inv (endsC (setT c t) l) := by
  obtain ⟨a1, a2, a3⟩ := endsC_t l (setT c t)
  obtain ⟨b1, b2, b3⟩ := endsC_s l (c := setT c t) h.sok
  obtain ⟨c1, c2⟩ := endsC_w l (setT c t)
  have hmem : ∀ o, memB c o = true → (∀ x ∈ l, hostB (x.key - 2000) = true → o ≠ x.key - 2000) → memL t.l o = true := by
    intro o ho hno
    refine mem_sub (fun x hx e => ?_) ho
    rcases hover x hx with h1 | h1
    · exact ⟨x, h1, e⟩
    · exfalso
      have h2 := memL_iff.1 ho
      exact hno x h1 (hostB_iff.2 (by omega)) (by omega)
  refine ⟨by rw [a1]; exact hok, b1, by rw [a2]; exact h.ttl1, by rw [a2]; exact h.ttl2, by rw [a3]; exact h.z1, by rw [a3]; exact h.z2, ?_, ?_, ?_, List.Pairwise.sublist c1 h.apart⟩
  · intro x hx
    rw [a1] at hx
    rw [a3]
    exact h.keys x (hsub x hx)
  · intro k o p e
    rcases b3 k o p e with h1 | ⟨h1, h2⟩
    · exact .inl h1
    · rcases h.own k o p h1 with h3 | ⟨h3, h4⟩
      · exact .inl h3
      · refine .inr ⟨by unfold memB; rw [a1]; exact hmem o h3 h2, by rw [a1]; show p ≤ t.last; omega⟩
  · intro f hf
    obtain ⟨h1, h2, h3, h4, h5, h6⟩ := h.wait f (c1.subset hf)
    refine ⟨by unfold memB; rw [a1]; exact hmem _ h1 (c2 f hf), h2, by rw [a1]; show _ ≤ t.last; omega, by unfold zoneB at h4 ⊢; rw [a3]; exact h4, ?_, ?_⟩
    · rw [a1]
      refine Lea.held_false.2 (fun x hx => Lea.held_false.1 h5 x (hsub x hx))
    · intro x hx
      rw [a1] at hx
      exact h6 x (hsub x hx)
theorem tick_inv {c : Cv} (h : Inv c) (e : Ev) : Inv (tickC c e).1 := by
  unfold tickC
  rcases e1 : decide (e.now < c.t.now)
  · refine less_inv h (Lea.okT_tick h.tok (by have := of_decide_eq_false e1; omega)) rfl (fun x hx => (List.mem_filter.1 (show x ∈ List.filter _ _ from hx)).1) (fun x hx => ?_)
    rcases e2 : decide (x.til ≤ e.now)
    · exact .inl (List.mem_filter.2 ⟨hx, by rw [e2]; rfl⟩)
    · exact .inr (List.mem_filter.2 ⟨hx, e2⟩)
  · exact h
theorem leave_inv {c : Cv} (h : Inv c) (e : Ev) : Inv (leaveC c e).1 := by
  unfold leaveC
  rcases e1 : Lea.heldB c.t.l e.key
  · exact h
  rcases e2 : hasNot c e
  · obtain ⟨y, hy, ey⟩ := Lea.held_iff.1 e1
    have := less_inv (l := [y]) h (Lea.okT_but (key := e.key) h.tok) rfl (fun x hx => (List.mem_filter.1 (show x ∈ List.filter _ _ from hx)).1) (fun x hx => by
      rcases e3 : (x.key == e.key)
      · exact .inl (List.mem_filter.2 ⟨hx, by rw [e3]; rfl⟩)
      · exact .inr (List.mem_singleton.2 (Lea.rises_inj (Lea.okT_rises h.tok) hx hy (by rw [ey]; simpa using e3))))
    rw [← ey] at this ⊢
    exact this
  · exact h
end Coo
end Go.Proofs.YtmflngclncidjaaGreat
/-
  THE FRAME OF A LAW'S PROOF, once for all laws of a seat: from 'the call returns true and turns nothing that was there' to the row; whatever the types of the parameters are.
-/
namespace Go.Proofs.YtmflngclncidjaaGreat
open Go.ChangeShapes Go.WideShapes Go.ChangeAt Go.RowKit
namespace Frame

theorem own : ownKnob Tryz.prog.godebug = none := by kernel_rfl
theorem laidOut : laidOutB Tryz.prog = true := by kernel_rfl

theorem trodAll_lt {H : Type} {enc : TypeId × Value → H} {P : Program} {W : World} : ∀ {ts : List TypeId} {vs : List Value} {ds : List (DataW H)} {ps : List MemPlace},
    DataW.TrodAll enc P W 0 (fun _ => true) true ts vs ds ps → ∀ x ∈ ps, x.block < W.heap.size
  | [], vs, ds, ps, h => by
    obtain ⟨rfl, rfl, rfl⟩ := trodAll_nil h
    intro x hx
    cases hx
  | t :: ts, vs, ds, ps, h => by
    obtain ⟨v, vs', d, ds', p, q, rfl, rfl, rfl, h0, h1⟩ := trodAll_cons h
    intro x hx
    rcases List.mem_append.1 hx with hx | hx
    · obtain ⟨m, hm⟩ := h0
      exact DataW.trod_lt m _ _ _ hm x hx
    · exact trodAll_lt h1 x hx

theorem trodAll_back {H : Type} {enc : TypeId × Value → H} {P : Program} (hl : laidOutB P = true) {W W' : World} (hb : Below W.heap.size W W') : ∀ {ts : List TypeId} {vs : List Value} {ds : List (DataW H)} {ps : List MemPlace},
    (ts.all fun t => P.readableRec t && decide (t < P.types.size)) = true → DataW.TrodAll enc P W 0 (fun _ => true) true ts vs ds ps → DataW.TrodAll enc P W' 0 (fun b => decide (b < W.heap.size)) true ts vs ds ps
  | [], vs, ds, ps, _, h => by
    obtain ⟨rfl, rfl, rfl⟩ := trodAll_nil h
    exact trodAll_mk0
  | t :: ts, vs, ds, ps, hr, h => by
    have hlt := trodAll_lt h
    obtain ⟨v, vs', d, ds', p, q, rfl, rfl, rfl, h0, h1⟩ := trodAll_cons h
    simp only [List.all_cons, Bool.and_eq_true, decide_eq_true_eq] at hr
    exact trodAll_cons_mk (Below.trod hl hr.1.1 hr.1.2 h0 hb fun x hx => hlt x (List.mem_append_left _ hx)) (trodAll_back hl hb (by simpa using hr.2) h1)

theorem trodAll_len {H : Type} {enc : TypeId × Value → H} {P : Program} {W : World} {base : Nat} {sp : Nat → Bool} {hd : Bool} : ∀ {ts : List TypeId} {vs : List Value} {ds : List (DataW H)} {ps : List MemPlace},
    DataW.TrodAll enc P W base sp hd ts vs ds ps → ds.length = ts.length
  | [], vs, ds, ps, h => by
    obtain ⟨rfl, rfl, rfl⟩ := trodAll_nil h
    rfl
  | t :: ts, vs, ds, ps, h => by
    obtain ⟨v, vs', d, ds', p, q, rfl, rfl, rfl, h0, h1⟩ := trodAll_cons h
    simp [trodAll_len h1]

/-- A specification that says: true, and each argument as it was. -/
structure Says (s : ChangeSpec) (n : Nat) : Prop where
  vars : s.vars = []
  results : ∀ (H : Type) (ds : List (DataW H)), ds.length = n → (s.fn H ds).results = [.lit (.bool true)]
  args : ∀ (H : Type) (ds : List (DataW H)), ds.length = n → (s.fn H ds).args = ds
  left : ∀ (H : Type) (ds : List (DataW H)), ds.length = n → (s.fn H ds).vars = []

/-- What a law's own proof is handed, and owes: for arguments that can be read and lie within the reach, the call returns true and turns nothing that was there. -/
def Walks (F : FuncId) (ts : List TypeId) : Prop :=
  ∀ (H : Type) (enc : TypeId × Value → H) (W : World) (args : Array Value) (ds : List (DataW H)) (ps : List MemPlace) (base : Nat),
    (∀ (j : Nat) t v, ts[j]? = some t → args[j]? = some v → Value.okWide Tryz.prog W .any base t v) →
    DataW.TrodAll enc Tryz.prog W 0 (fun _ => true) true ts args.toList ds ps →
    (DataW.weightsEach Tryz.prog ts ds).all (· ≤ reachBytes) = true →
    Calls Tryz.prog F args W fun e w' => e = .returned (.bool true) ∧ Below W.heap.size W w'

set_option maxRecDepth 100000 in
theorem lifted {os : Os} {started : os.Started} {H : Type} {enc : TypeId × Value → H} {F : FuncId} {fn : Func} {s : ChangeSpec} {boolT : TypeId} (hu : Tryz.prog.underlying boolT = some .bool)
    (hini : Tryz.checked.prog.inits.idxOf? F = none) (hfn : Tryz.checked.prog.funcs[F]? = some fn) {n : Nat} (hn : fn.params.toList.length = n) (hs : Says s n)
    (hread : (fn.params.toList.all fun t => Tryz.prog.readableRec t && decide (t < Tryz.prog.types.size)) = true) (hres : fn.resultTypes = #[boolT])
    (witness : ∃ (w : World) (tape : Tape) (i : Input), w.os = os ∧ (w.forCall tape i).Shaped Tryz.checked.prog ∧ i.vars = [] ∧ Input.okWide Tryz.checked.prog (w.forCall tape i) .any w.heap.size F i ∧
      s.pre6 enc Tryz.checked.prog fn [] false (w.forCall tape i).memory i.args ∧ ({} : Assume).holds Tryz.checked.prog (lone (Frame.enter Tryz.checked.prog F i.args .normal) [] (w.forCall tape i)))
    (walk : Walks F fn.params.toList) :
    ReturnsInHanded {} Tryz.checked os F .any (s.pre6 enc Tryz.prog fn [] false) (s.post enc Tryz.prog fn false true false false) := by
  refine returnsInHanded_of_change_sized (C := Tryz.checked) own started hini hfn witness ?_
  intro W base args ds gs before hval0 hW _ hsz0 _
  have hsz : (DataW.weightsEach Tryz.prog (fn.params.toList ++ s.plain.varTypes Tryz.prog) (ds ++ gs)).all (· ≤ reachBytes) = true := hsz0
  have hval : ∀ (j : Nat) t v, fn.params[j]? = some t → args[j]? = some v → Value.okWide Tryz.prog W .any base t v := hval0
  have hW' := hW
  obtain ⟨p, q, hA0, hV, rfl, hfz, hnd⟩ := hW
  have hA : DataW.TrodAll enc Tryz.prog W 0 (fun _ => true) true fn.params.toList args.toList ds p := hA0
  have hlen : ds.length = n := (trodAll_len hA).trans hn
  have hvar : s.plain.varTypes Tryz.prog = [] := by
    simp [DataSpec.varTypes, ChangeSpec.plain, hs.vars]
  rw [hs.vars] at hV
  obtain ⟨rfl, rfl⟩ := trodVars_none hV
  rw [hvar, List.append_nil, List.append_nil] at hsz
  refine (walk H enc W args ds p base (fun j t v h1 h2 => hval j t v (by simpa using h1) h2) hA hsz).mono fun e W' ⟨he, bel⟩ => ?_
  subst he
  refine ⟨_, rfl, ds, [], _, [], p, [], hW', ?_, ?_, ?_, bel.frame _, fun h => by cases h⟩
  · rw [List.append_nil, hs.results H ds hlen, hres]
    exact trodAll_mk1 (shut_bool hu _)
  · rw [List.append_nil, hs.args H ds hlen]
    exact trodAll_back laidOut bel hread hA
  · rw [List.append_nil, hs.left H ds hlen, hs.vars]
    rfl
end Frame
end Go.Proofs.YtmflngclncidjaaGreat
/-
  WHAT A LAW'S ARGUMENTS SAY IN PLAIN: a slice of bytes, of ints, a number.
-/
namespace Go.Proofs.YtmflngclncidjaaGreat
open Go.ChangeShapes Go.WideShapes Go.ChangeAt Go.RowKit Mem
namespace Args

variable {H : Type} {enc : TypeId × Value → H} {W : World}

/-- A number that fits a byte, as a byte. -/
def byte (n : Int) : BitVec 8 := BitVec.ofInt 8 n
theorem u_byte {n : Int} (h : (Lit.int .u8 n).wf = true) : u (byte n) = n := by
  have h1 : IntKind.u8.min = 0 := rfl
  have h2 : IntKind.u8.max = 255 := rfl
  simp only [Lit.wf, Bool.and_eq_true, decide_eq_true_eq] at h
  unfold u byte
  rw [BitVec.toNat_ofInt]
  omega

theorem row_of {x : Addr} {n c : Nat} {k : IntKind} {zs : List Int} (hnc : n ≤ c) (hn : n ≤ zs.length) (hr : n ≤ 140737488351232) (hc : ∀ i, i < zs.length → W.cell? (x.add i) = some (.int k (zs.getD i 0))) :
    Row (fun z : Int => Value.int k z) W (some x) n c (zs.take n) := by
  refine ⟨by simp; omega, hnc, hr, fun h0 => ?_⟩
  obtain ⟨b, o, s⟩ := x
  have hc0 := hc 0 (by omega)
  have hsp : s = none := by simpa [Addr.add] using World.cell?_spot hc0
  subst hsp
  refine ⟨b, o, rfl, World.block_lt_of_cell? W ⟨b, o, none⟩ (by simpa [Addr.add] using hc0), fun i z hi => ?_⟩
  rw [List.getElem?_take] at hi
  by_cases hin : i < n
  · rw [if_pos hin] at hi
    have := hc i (by omega)
    rw [add_none] at this
    rw [this]
    simp [List.getD, hi]
  · rw [if_neg hin] at hi; cases hi

set_option maxRecDepth 100000 in
theorem open_bytes {v : Value} {d : DataW H} {p : List MemPlace} {base : Nat} (hok : Value.okWide Tryz.prog W .any base 53 v) (h : DataW.Trod enc Tryz.prog W 0 (fun _ => true) true 53 v d p)
    (hs : ∀ q ∈ d.weights Tryz.prog 53, q ≤ reachBytes) : ∃ A n c l, v = .slice A n c ∧ Row cb W A n c l := by
  obtain ⟨a0, len0, cap0, rfl⟩ := okWide_slice Tryz.underlying53 hok
  obtain ⟨fuel, hf⟩ := h
  rcases open_ints Tryz.underlying53 Tryz.underlying5 (by kernel_rfl) hf with ⟨hcs, _⟩ | ⟨x, l, c, zs, hcs, _, hl, hm, hz, hx, hcell, hwz⟩
  · simp [Value.cells] at hcs
    obtain ⟨rfl, rfl, rfl⟩ := hcs
    exact ⟨none, 0, 0, [], rfl, Row.nil _ W⟩
  · simp [Value.cells] at hcs
    obtain ⟨rfl, rfl, rfl⟩ := hcs
    simp only [Prod.mk.injEq] at hx
    obtain ⟨rfl, rfl⟩ := hx
    have hz : zs.length = cap0 := by simpa using hz
    have hw := hs (zs.length * 1) (by
      have hb : Tryz.prog.bytesOf 5 = 1 := by kernel_rfl
      simp [DataW.weights, Tryz.underlying53, lits, hb]
      left; omega)
    have hr : len0 ≤ 140737488351232 := by simp only [reachBytes] at hw; omega
    have hrow := row_of (k := .u8) (x := x) (n := len0) (c := cap0) (by omega) (by omega) hr hcell
    refine ⟨_, len0, cap0, (zs.take len0).map byte, rfl, by simp; omega, by omega, hr, fun h0 => ?_⟩
    obtain ⟨b, o, e, hlt, hc⟩ := hrow.at_ h0
    refine ⟨b, o, e, hlt, fun i q hi => ?_⟩
    rw [List.getElem?_map] at hi
    obtain ⟨z, hz1, rfl⟩ := Option.map_eq_some_iff.1 hi
    rw [hc i z hz1]
    unfold cb
    rw [u_byte (hwz z (List.mem_of_mem_take (List.mem_of_getElem? hz1)))]

set_option maxRecDepth 100000 in
theorem open_ints_ {v : Value} {d : DataW H} {p : List MemPlace} {base : Nat} (hok : Value.okWide Tryz.prog W .any base 54 v) (h : DataW.Trod enc Tryz.prog W 0 (fun _ => true) true 54 v d p)
    (hs : ∀ q ∈ d.weights Tryz.prog 54, q ≤ reachBytes) : ∃ A n c l, v = .slice A n c ∧ Row ci W A n c l ∧ ∀ z ∈ l, (Lit.int .i64 z).wf = true := by
  obtain ⟨a0, len0, cap0, rfl⟩ := okWide_slice Tryz.underlying54 hok
  obtain ⟨fuel, hf⟩ := h
  rcases open_ints Tryz.underlying54 Tryz.underlying3 (by kernel_rfl) hf with ⟨hcs, _⟩ | ⟨x, l, c, zs, hcs, _, hl, hm, hz, hx, hcell, hwz⟩
  · simp [Value.cells] at hcs
    obtain ⟨rfl, rfl, rfl⟩ := hcs
    exact ⟨none, 0, 0, [], rfl, Row.nil _ W, by simp⟩
  · simp [Value.cells] at hcs
    obtain ⟨rfl, rfl, rfl⟩ := hcs
    simp only [Prod.mk.injEq] at hx
    obtain ⟨rfl, rfl⟩ := hx
    have hz : zs.length = cap0 := by simpa using hz
    have hw := hs (zs.length * 8) (by
      have hb : Tryz.prog.bytesOf 3 = 8 := by kernel_rfl
      simp [DataW.weights, Tryz.underlying54, lits, hb]
      left; omega)
    have hr : len0 ≤ 140737488351232 := by simp only [reachBytes] at hw; omega
    exact ⟨_, len0, cap0, zs.take len0, rfl, row_of (k := .i64) (x := x) (n := len0) (c := cap0) (by omega) (by omega) hr hcell, fun z hz => hwz z (List.mem_of_mem_take hz)⟩

theorem u32_of {n : Int} (h : (Lit.int .u32 n).wf = true) : ∃ m : Nat, n = m ∧ m < 4294967296 := by
  have h1 : IntKind.u32.min = 0 := rfl
  have h2 : IntKind.u32.max = 4294967295 := by decide
  simp only [Lit.wf, Bool.and_eq_true, decide_eq_true_eq] at h
  exact ⟨n.toNat, by omega, by omega⟩
theorem u64_of {n : Int} (h : (Lit.int .u64 n).wf = true) : ∃ m : Nat, n = m ∧ m < 18446744073709551616 := by
  have h1 : IntKind.u64.min = 0 := rfl
  have h2 : IntKind.u64.max = 18446744073709551615 := by decide
  simp only [Lit.wf, Bool.and_eq_true, decide_eq_true_eq] at h
  exact ⟨n.toNat, by omega, by omega⟩
theorem i64_of {n : Int} (h : (Lit.int .i64 n).wf = true) : -9223372036854775808 ≤ n ∧ n ≤ 9223372036854775807 := by
  have h1 : IntKind.i64.min = -9223372036854775808 := by decide
  have h2 : IntKind.i64.max = 9223372036854775807 := by decide
  simp only [Lit.wf, Bool.and_eq_true, decide_eq_true_eq] at h
  omega
/-- The reach, argument by argument. -/
theorem sized_arg {ts : List TypeId} {ds : List (DataW H)} (h : (DataW.weightsEach Tryz.prog ts ds).all (· ≤ reachBytes) = true) {j : Nat} {t : TypeId} {d : DataW H} (ht : ts[j]? = some t) (hd : ds[j]? = some d) : ∀ q ∈ d.weights Tryz.prog t, q ≤ reachBytes := by
  intro q hq
  have := List.all_eq_true.1 h q (DataW.weights_mem_each ht hd q hq)
  simpa using this
end Args
end Go.Proofs.YtmflngclncidjaaGreat
/-
  SLICES OF STRUCTS IN MEMORY, AND AS ARGUMENTS, IN ONE FOR ALL TYPES: an element's cells by a function of the prover's own.
-/
namespace Go.Proofs.YtmflngclncidjaaGreat
open Go.ChangeShapes Go.WideShapes Go.ChangeAt Go.RowKit Mem

/-- The slice reads as these elements, each of k cells. -/
structure RowS {α : Type} (cells : α → List Value) (k : Nat) (w : World) (A : Option Addr) (n c : Nat) (xs : List α) : Prop where
  len : xs.length = n
  cap : n ≤ c
  big : n ≤ 140737488351232
  at_ : 0 < n → ∃ b o, A = some ⟨b, o, none⟩ ∧ b < w.heap.size ∧ ∀ i x, xs[i]? = some x → ∀ j u, (cells x)[j]? = some u → w.cell? ⟨b, o + i * k + j, none⟩ = some u
section
variable {α : Type} {cells : α → List Value} {k : Nat} {w w' : World} {A : Option Addr} {n c : Nat} {xs : List α}
theorem RowS.nil (cells : α → List Value) (k : Nat) (w : World) : RowS cells k w none 0 0 [] := ⟨rfl, by omega, by omega, fun h => absurd h (by omega)⟩
theorem RowS.below (h : RowS cells k w A n c xs) (hb : Below w.heap.size w w') : RowS cells k w' A n c xs := by
  refine ⟨h.len, h.cap, h.big, fun h0 => ?_⟩
  obtain ⟨b, o, e, hx, hc⟩ := h.at_ h0
  refine ⟨b, o, e, Nat.lt_of_lt_of_le hx hb.size, fun i x hi j u hu => ?_⟩
  rw [World.cell?_of_block (w := w) (hb.block b hx)]
  exact hc i x hi j u hu
theorem RowS.get (h : RowS cells k w A n c xs) {i : Nat} (hi : i < n) : ∃ x, xs[i]? = some x := ⟨_, List.getElem?_eq_getElem (by have := h.len; omega)⟩
/-- Where an element's cells lie, now and as long as that block stays. -/
theorem RowS.elem (h : RowS cells k w A n c xs) {i : Nat} {x : α} (hx : xs[i]? = some x) : ∃ b o, A = some ⟨b, o, none⟩ ∧ b < w.heap.size ∧ ∀ W : World, W.heap[b]? = w.heap[b]? → ∀ j u, (cells x)[j]? = some u → W.cell? ⟨b, o + i * k + j, none⟩ = some u := by
  have : i < xs.length := (List.getElem?_eq_some_iff.1 hx).1
  obtain ⟨b, o, e, hb, hc⟩ := h.at_ (by have := h.len; omega)
  refine ⟨b, o, e, hb, fun W hW j u hu => ?_⟩
  rw [World.cell?_of_block (w := w) hW]
  exact hc i x hx j u hu
end

namespace Args
variable {H : Type} {enc : TypeId × Value → H} {W : World}

theorem weights_of {t : TypeId} : ∀ (l : List (DataW H)) (e : DataW H), e ∈ l → ∀ q ∈ e.weights Tryz.prog t, q ∈ DataW.weightsAll Tryz.prog t l := by
  intro l
  induction l with
  | nil => intro e he; cases he
  | cons y l ih =>
    intro e he q hq
    simp only [DataW.weightsAll, List.mem_append]
    rcases List.mem_cons.1 he with rfl | he
    · exact .inl hq
    · exact .inr (ih e he q hq)

set_option maxRecDepth 100000 in
/-- A slice of structs: raw opens one element. -/
theorem open_rowS {α : Type} {cells : α → List Value} {k bytes : Nat} {p : α → Prop} {t e : TypeId} (hu : Tryz.prog.underlying t = some (.slice e)) (hC : Tryz.prog.cellsOf e = k) (hB : Tryz.prog.bytesOf e = bytes) (hb1 : 1 ≤ bytes) (hk : 0 < k)
    (raw : ∀ (fuel : Nat) (cs : List Value) (x : DataW H × List MemPlace), DataW.trod enc Tryz.prog W 0 (fun _ => true) true fuel e cs = some x → cs.length = k → (∀ q ∈ x.1.weights Tryz.prog e, q ≤ reachBytes) → ∃ v : α, cs = cells v ∧ p v)
    {v : Value} {d : DataW H} {ps : List MemPlace} {base : Nat} (hok : Value.okWide Tryz.prog W .any base t v) (h : DataW.Trod enc Tryz.prog W 0 (fun _ => true) true t v d ps)
    (hs : ∀ q ∈ d.weights Tryz.prog t, q ≤ reachBytes) : ∃ A n c xs, v = .slice A n c ∧ RowS cells k W A n c xs ∧ ∀ x ∈ xs, p x := by
  obtain ⟨a0, len0, cap0, rfl⟩ := okWide_slice hu hok
  obtain ⟨fuel, hf⟩ := h
  rcases Go.Deep.open_slice hu hf with ⟨hcs, _⟩ | ⟨a, len, cap, m, n, D, Pl, hcs, hb, hl, hm, hmm, hx, hi⟩
  · simp [Value.cells] at hcs
    obtain ⟨rfl, rfl, rfl⟩ := hcs
    exact ⟨none, 0, 0, [], rfl, RowS.nil _ _ _, by simp⟩
  · simp [Value.cells] at hcs
    obtain ⟨rfl, rfl, rfl⟩ := hcs
    simp only [if_true] at hmm
    subst hmm
    simp only [Prod.mk.injEq] at hx
    obtain ⟨rfl, rfl⟩ := hx
    have hw := hs ((len0 + (m - len0)) * bytes) (by simp [DataW.weights, hu, hB])
    have hbig : len0 ≤ 140737488351232 := by
      simp only [reachBytes] at hw
      have : len0 * 1 ≤ (len0 + (m - len0)) * bytes := Nat.mul_le_mul (by omega) hb1
      omega
    rcases Nat.eq_zero_or_pos len0 with h0 | h0
    · subst h0
      exact ⟨_, 0, m, [], rfl, ⟨rfl, by omega, by omega, fun h => absurd h (by omega)⟩, by simp⟩
    · have hex : ∀ i, i < len0 → ∃ v : α, (∀ j u, (cells v)[j]? = some u → W.cell? (a.add (i * k + j)) = some u) ∧ p v ∧ (cells v).length = k := by
        intro i hil
        obtain ⟨cs', hc, ht⟩ := hi i (by omega)
        rw [hC] at hc
        obtain ⟨_, hcl, hat⟩ := World.cells?_some hc
        obtain ⟨v, rfl, hp⟩ := raw _ _ _ ht hcl (fun q hq => by
          refine hs q ?_
          simp only [DataW.weights, hu, List.mem_cons, List.mem_append]
          exact .inr (.inl (weights_of _ _ (List.mem_map.2 ⟨i, List.mem_range.2 hil, rfl⟩) q hq)))
        refine ⟨v, fun j u hj => ?_, hp, hcl⟩
        have hjl : j < k := by have := (List.getElem?_eq_some_iff.1 hj).1; omega
        rw [← Go.Deep.add_add, hat j hjl, hj]
      obtain ⟨f, hf⟩ := Classical.axiomOfChoice (r := fun (i : Fin len0) (v : α) => (∀ j u, (cells v)[j]? = some u → W.cell? (a.add (i.1 * k + j)) = some u) ∧ p v ∧ (cells v).length = k) (fun i => hex i.1 i.2)
      obtain ⟨b, o, s⟩ := a
      obtain ⟨u0, hu0⟩ : ∃ u, (cells (f ⟨0, h0⟩))[0]? = some u := ⟨_, List.getElem?_eq_getElem (by have := (hf ⟨0, h0⟩).2.2; omega)⟩
      have hc0 := (hf ⟨0, h0⟩).1 0 _ hu0
      have hsp : s = none := by simpa [Addr.add] using World.cell?_spot hc0
      subst hsp
      have hblk : b < W.heap.size := World.block_lt_of_cell? W ⟨b, o, none⟩ (by simpa [Addr.add] using hc0)
      refine ⟨_, len0, m, List.ofFn f, rfl, ⟨by simp, by omega, hbig, fun _ => ⟨b, o, rfl, hblk, fun i x hx j u hu => ?_⟩⟩, fun x hx => ?_⟩
      · rw [List.getElem?_ofFn] at hx
        split at hx
        · rename_i hil
          simp only [Option.some.injEq] at hx
          subst hx
          have := (hf ⟨i, hil⟩).1 j u hu
          rw [add_none] at this
          rwa [Nat.add_assoc]
        · cases hx
      · obtain ⟨i, rfl⟩ := List.mem_ofFn.1 hx
        exact (hf i).2.1

/-- A slice's cell: bytes. -/
theorem raw_bytes_ {fuel : Nat} {cs : List Value} {x : DataW H × List MemPlace} (hf : DataW.trod enc Tryz.prog W 0 (fun _ => true) true fuel 53 cs = some x) (hs : ∀ q ∈ x.1.weights Tryz.prog 53, q ≤ reachBytes) :
    ∃ A n c l, cs = [.slice A n c] ∧ Row cb W A n c l := by
  rcases open_ints Tryz.underlying53 Tryz.underlying5 (by kernel_rfl) hf with ⟨hcs, _⟩ | ⟨a, l, c, zs, hcs, _, hl, hm, hz, hx, hcell, hwz⟩
  · exact ⟨none, 0, 0, [], hcs, Row.nil _ W⟩
  · have hz : zs.length = c := by simpa using hz
    have hb : Tryz.prog.bytesOf 5 = 1 := by kernel_rfl
    have hw := hs (zs.length * 1) (by
      rw [hx]
      simp [DataW.weights, Tryz.underlying53, lits, hb]
      left; omega)
    have hr : l ≤ 140737488351232 := by simp only [reachBytes] at hw; omega
    have hrow := row_of (W := W) (k := .u8) (x := a) (n := l) (c := c) (zs := zs) (by omega) (by omega) hr hcell
    refine ⟨some a, l, c, (zs.take l).map byte, hcs, ⟨by simp; omega, by omega, hr, fun h0 => ?_⟩⟩
    obtain ⟨b, o, e, hlt, hc⟩ := hrow.at_ h0
    refine ⟨b, o, e, hlt, fun i q hi => ?_⟩
    rw [List.getElem?_map] at hi
    obtain ⟨z, hz1, rfl⟩ := Option.map_eq_some_iff.1 hi
    rw [hc i z hz1]
    unfold cb
    rw [u_byte (hwz z (List.mem_of_mem_take (List.mem_of_getElem? hz1)))]
end Args
end Go.Proofs.YtmflngclncidjaaGreat
/-
  A REGION THAT DRAWS ITS ORDER, STEP BY STEP BY HAND: an operation that yields the same in every world that meets S is taken first; of one that does not, alone ready, the step is walked. (My own; no program is named here.)
-/
namespace Go.Proofs.YtmflngclncidjaaGreat
open Go
namespace Reg
variable {P : Program} {ops : Array Oper} {Q : Exit → Act → World → Prop} {S : World → Prop} {md : Region.Mode}

/-- An operation, its parts written out, is taken first. -/
theorem take (i : Nat) {d : Option Tmp} {op : Op} {ty : TypeId} {ps : String} {af : Array _} {g : Option _} {v : Value} {fuel : Nat} {listed : Array Bool} {a : Act} {w : World} (hi : ops[i]? = some { dst := d, op := op, type := ty, pos := ps, after := af, guard := g })
    (hs : Region.noSelect ops = true) (hf : Region.free md ops listed i = true) (hr : (Region.ready md ops listed).contains i = true)
    (hQ : ∀ c a w, Q (.panic c) (a.put d v) w → Q (.panic c) a w) (hy : YieldsIf P ops S { dst := d, op := op, type := ty, pos := ps, after := af, guard := g } v a) (hS : S w)
    (h : wpAnyH P md ops Q S fuel (listed.setIfInBounds i true) (a.put d v) w) : wpAnyH P md ops Q S (fuel + 1) listed a w :=
  wpAnyH_take hi hs hf hr hQ hy hS h

/-- The one operation that may come up is walked. -/
theorem step (i : Nat) {d : Option Tmp} {op : Op} {ty : TypeId} {ps : String} {af : Array _} {g : Option _} {fuel : Nat} {listed : Array Bool} {a : Act} {w : World} (hi : ops[i]? = some { dst := d, op := op, type := ty, pos := ps, after := af, guard := g })
    (hr : Region.ready md ops listed = [i]) (hw : Region.wanted { dst := d, op := op, type := ty, pos := ps, after := af, guard := g } (yielded ops a.tmps) = true)
    (h : ∀ K' : Act → World → Prop, Shut (∀ a w, S w → (S w → wpAnyH P md ops Q S fuel (listed.setIfInBounds i true) a w) → K' a w) → Oper.wp P { dst := d, op := op, type := ty, pos := ps, after := af, guard := g } a w K' Q) :
    wpAnyH P md ops Q S (fuel + 1) listed a w :=
  wpAnyH_ready hr (by simp) (AllReadyH.cons hi (fun K hK => by rw [if_pos hw]; exact h K hK) AllReadyH.nil)

/-- Two that may come up: each is walked. -/
theorem step2 (i j : Nat) {d : Option Tmp} {op : Op} {ty : TypeId} {ps : String} {af : Array _} {g : Option _} {d' : Option Tmp} {op' : Op} {ty' : TypeId} {ps' : String} {af' : Array _} {g' : Option _} {fuel : Nat} {listed : Array Bool} {a : Act} {w : World}
    (hi : ops[i]? = some { dst := d, op := op, type := ty, pos := ps, after := af, guard := g }) (hj : ops[j]? = some { dst := d', op := op', type := ty', pos := ps', after := af', guard := g' })
    (hr : Region.ready md ops listed = [i, j]) (hw : Region.wanted { dst := d, op := op, type := ty, pos := ps, after := af, guard := g } (yielded ops a.tmps) = true)
    (hw' : Region.wanted { dst := d', op := op', type := ty', pos := ps', after := af', guard := g' } (yielded ops a.tmps) = true)
    (h : ∀ K' : Act → World → Prop, Shut (∀ a w, S w → (S w → wpAnyH P md ops Q S fuel (listed.setIfInBounds i true) a w) → K' a w) → Oper.wp P { dst := d, op := op, type := ty, pos := ps, after := af, guard := g } a w K' Q)
    (h' : ∀ K' : Act → World → Prop, Shut (∀ a w, S w → (S w → wpAnyH P md ops Q S fuel (listed.setIfInBounds j true) a w) → K' a w) → Oper.wp P { dst := d', op := op', type := ty', pos := ps', after := af', guard := g' } a w K' Q) :
    wpAnyH P md ops Q S (fuel + 1) listed a w :=
  wpAnyH_ready hr (by simp) (AllReadyH.cons hi (fun K hK => by rw [if_pos hw]; exact h K hK) (AllReadyH.cons hj (fun K hK => by rw [if_pos hw']; exact h' K hK) AllReadyH.nil))

/-- Three that may come up: each is walked. -/
theorem step3 (i j l : Nat) {d : Option Tmp} {op : Op} {ty : TypeId} {ps : String} {af : Array _} {g : Option _} {d' : Option Tmp} {op' : Op} {ty' : TypeId} {ps' : String} {af' : Array _} {g' : Option _} {d'' : Option Tmp} {op'' : Op} {ty'' : TypeId} {ps'' : String} {af'' : Array _} {g'' : Option _} {fuel : Nat} {listed : Array Bool} {a : Act} {w : World}
    (hi : ops[i]? = some { dst := d, op := op, type := ty, pos := ps, after := af, guard := g }) (hj : ops[j]? = some { dst := d', op := op', type := ty', pos := ps', after := af', guard := g' }) (hl : ops[l]? = some { dst := d'', op := op'', type := ty'', pos := ps'', after := af'', guard := g'' })
    (hr : Region.ready md ops listed = [i, j, l]) (hw : Region.wanted { dst := d, op := op, type := ty, pos := ps, after := af, guard := g } (yielded ops a.tmps) = true)
    (hw' : Region.wanted { dst := d', op := op', type := ty', pos := ps', after := af', guard := g' } (yielded ops a.tmps) = true)
    (hw'' : Region.wanted { dst := d'', op := op'', type := ty'', pos := ps'', after := af'', guard := g'' } (yielded ops a.tmps) = true)
    (h : ∀ K' : Act → World → Prop, Shut (∀ a w, S w → (S w → wpAnyH P md ops Q S fuel (listed.setIfInBounds i true) a w) → K' a w) → Oper.wp P { dst := d, op := op, type := ty, pos := ps, after := af, guard := g } a w K' Q)
    (h' : ∀ K' : Act → World → Prop, Shut (∀ a w, S w → (S w → wpAnyH P md ops Q S fuel (listed.setIfInBounds j true) a w) → K' a w) → Oper.wp P { dst := d', op := op', type := ty', pos := ps', after := af', guard := g' } a w K' Q)
    (h'' : ∀ K' : Act → World → Prop, Shut (∀ a w, S w → (S w → wpAnyH P md ops Q S fuel (listed.setIfInBounds l true) a w) → K' a w) → Oper.wp P { dst := d'', op := op'', type := ty'', pos := ps'', after := af'', guard := g'' } a w K' Q) :
    wpAnyH P md ops Q S (fuel + 1) listed a w :=
  wpAnyH_ready hr (by simp) (AllReadyH.cons hi (fun K hK => by rw [if_pos hw]; exact h K hK) (AllReadyH.cons hj (fun K hK => by rw [if_pos hw']; exact h' K hK) (AllReadyH.cons hl (fun K hK => by rw [if_pos hw'']; exact h'' K hK) AllReadyH.nil)))
end Reg
end Go.Proofs.YtmflngclncidjaaGreat
