/-
  SEVERAL TEXTS IN ONE FILE: CooSpaP, CooSpans, CooArgs, CooSpansRow.
-/
import Derived.Test.YtcpkgcckjphbfaaGreatJ07
import Derived.Test.YtcpkgcckjphbfaaGreatJ33
import Derived.Test.YtcpkgcckjphbfaaGreatJ31
import Derived.Test.YtcpkgcckjphbfaaGreatJ04
import Derived.BigQuiet
/-
  PLAIN FACTS of the blocks that are asked for. (No program is named here; written by gen_coospans.py.)
-/
namespace Go.Proofs.YtcpkgcckjphbfaaGreat
namespace Coo
open Lea (Lv Tv)
open Spa (Sp)
theorem do_end {c : Cv} (h : Inv c) (e : Ev) : Spa.endF 0 (doC c e).1.s = Spa.endF 0 c.s := by
  refine do_cases c e (fun r => Spa.endF 0 r.1.s = Spa.endF 0 c.s) (fun _ => rfl) (fun _ _ => ?_) (fun _ _ => ?_) (fun _ _ => ?_) (fun _ hh => ?_) (fun _ _ => ?_) (fun _ => ?_) (fun _ _ => ?_) (fun _ _ => ?_)
  · unfold joinC grantC; rcases Lea.heldB c.t.l (2000 + e.host) <;> rfl
  · unfold askC
    rcases zoneB c e.zone
    · rfl
    rcases memB c e.host
    · rfl
    rcases awayB c e.zone <;> rfl
  · unfold ackC
    rcases c.wt.findIdx? (isF e.zone e.epoch) with _ | i
    · rfl
    · simp only
      rcases ((c.wt.getD i zF).host == e.host) <;> rfl
  · unfold giveC
    rcases memB c e.host
    · rfl
    rcases e2 : Spa.rangeB c.s e.fr e.to
    · rfl
    rcases (Spa.partsS c.s e.fr e.to).any (other e.host)
    · have h0 := last0 h
      exact (Spa.giveS_ok e2 (Spa.mayOwn_iff.2 (.inr (by have := hostB_iff.1 hh; omega)))).2
    · rfl
  · unfold electC
    rcases memB c e.host
    · rfl
    · unfold grantC; rcases Lea.heldB c.t.l 1000 <;> rfl
  · unfold tickC
    rcases decide (e.now < c.t.now)
    · exact (endsC_s (c := setT c (tickT c e.now)) (overL c e.now) h.sok).2.1
    · rfl
  · unfold renewC
    rcases Lea.heldB c.t.l e.key
    · rfl
    rcases hasNot c e <;> rfl
  · unfold leaveC
    rcases Lea.heldB c.t.l e.key
    · rfl
    rcases hasNot c e
    · exact (endC_s (c := setT c ⟨c.t.last, c.t.now, Lea.butK c.t.l e.key⟩) h.sok e.key).2.1
    · rfl
theorem all_end (l : List Ev) {c : Cv} (h : Inv c) : Spa.endF 0 (allC c l).1.s = Spa.endF 0 c.s := by
  induction l generalizing c with
  | nil => rfl
  | cons e r ih => exact (ih (do_inv h e)).trans (do_end h e)
def spanE (h a b : Int) : Ev := ⟨4, h, 0, 0, a, b, 0, 0⟩
def okF (h a b : Int) (s : Sp) : Bool := decide (s.own < 0) || (s.own == h || (decide (s.to ≤ a) || decide (b ≤ s.fr)))
def inB (a b : Int) : Bool := decide (0 ≤ a) && (decide (a < b) && decide (b ≤ 60))
theorem okF_false {h a b : Int} {s : Sp} : okF h a b s = false ↔ 0 ≤ s.own ∧ s.own ≠ h ∧ a < s.to ∧ s.fr < b := by
  unfold okF
  simp only [Bool.or_eq_false_iff, decide_eq_false_iff_not, beq_eq_false_iff_ne, Int.not_le, Int.not_lt]
def freeB (c : Cv) (h a b : Int) : Bool := inB a b && c.s.all (okF h a b)
theorem inB_iff {a b : Int} : inB a b = true ↔ 0 ≤ a ∧ a < b ∧ b ≤ 60 := by
  unfold inB; simp only [Bool.and_eq_true, decide_eq_true_eq]
theorem own_cases {c : Cv} (hi : Inv c) {s : Sp} (hs : s ∈ c.s) : s.own = -1 ∨ 0 ≤ s.own := by
  rcases Spa.mayOwn_iff.1 (Spa.ok_may hi.sok s hs) with h | h
  · exact .inl h.1
  · exact .inr h.1
theorem free_iff {c : Cv} (hi : Inv c) (h6 : Spa.endF 0 c.s = 60) (h a b : Int) : freeB c h a b = true ↔ Spa.rangeB c.s a b = true ∧ (Spa.partsS c.s a b).any (other h) = false := by
  unfold freeB
  rw [Bool.and_eq_true, inB_iff, Spa.rangeB_iff, h6, List.all_eq_true]
  constructor
  · rintro ⟨⟨h1, h2, h3⟩, h4⟩
    refine ⟨⟨hi.sok, h1, h2, h3⟩, List.any_eq_false.2 fun p hp => ?_⟩
    obtain ⟨hp1, hp2⟩ := List.mem_filter.1 (show p ∈ List.filter _ _ from hp)
    obtain ⟨s, hs, rfl⟩ := List.mem_map.1 hp1
    have h5 := h4 s hs
    have h6 : max s.fr a < min s.to b := of_decide_eq_true hp2
    intro h7
    have h8 : ((s.own != -1) && (s.own != h)) = true := h7
    simp only [Bool.and_eq_true, bne_iff_ne, ne_eq] at h8
    have h9 : okF h a b s = false := okF_false.2 ⟨by rcases own_cases hi hs with h | h <;> omega, h8.2, by omega, by omega⟩
    rw [h5] at h9
    cases h9
  · rintro ⟨⟨-, h1, h2, h3⟩, h4⟩
    refine ⟨⟨h1, h2, h3⟩, fun s hs => ?_⟩
    rcases h5 : okF h a b s
    · obtain ⟨h6, h7, h8, h9⟩ := okF_false.1 h5
      have hm := (Spa.ok_ch hi.sok).mem hs
      have h10 : Spa.clip a b s ∈ Spa.partsS c.s a b := List.mem_filter.2 ⟨List.mem_map.2 ⟨s, hs, rfl⟩, decide_eq_true (show max s.fr a < min s.to b by omega)⟩
      have h11 := List.any_eq_false.1 h4 _ h10
      have h12 : ((s.own != -1) && (s.own != h)) = true := by simp only [Bool.and_eq_true, bne_iff_ne, ne_eq]; exact ⟨by omega, h7⟩
      exact absurd h12 h11
    · rfl
theorem span_do (c : Cv) {h : Int} (hh : 0 ≤ h ∧ h < 8) (a b : Int) : doC c (spanE h a b) = giveC c (spanE h a b) := by
  have h4 : mayE (spanE h a b) = true := mayE_iff.2 ⟨rfl, .inr (hostB_iff.2 hh)⟩
  unfold doC
  rw [h4]
  rfl
theorem span_ok {c : Cv} (hi : Inv c) (h6 : Spa.endF 0 c.s = 60) {h : Int} (hh : 0 ≤ h ∧ h < 8) {a b : Int} (hm : memB c h = true) (hf : freeB c h a b = true) : doC c (spanE h a b) = (giveTo c (spanE h a b), ⟨0, c.t.last + 1, []⟩) := by
  obtain ⟨h1, h2⟩ := (free_iff hi h6 h a b).1 hf
  rw [span_do c hh]
  unfold giveC
  rw [show memB c (spanE h a b).host = true from hm, show Spa.rangeB c.s (spanE h a b).fr (spanE h a b).to = true from h1, show (Spa.partsS c.s (spanE h a b).fr (spanE h a b).to).any (other (spanE h a b).host) = false from h2]
  rfl
theorem span_bad {c : Cv} (hi : Inv c) (h6 : Spa.endF 0 c.s = 60) {h : Int} (hh : 0 ≤ h ∧ h < 8) {a b : Int} (hf : (memB c h && freeB c h a b) = false) : (doC c (spanE h a b)).2.e ≠ 0 := by
  rw [span_do c hh]
  unfold giveC
  show (bif memB c h then (bif Spa.rangeB c.s a b then (bif (Spa.partsS c.s a b).any (other h) then bad c 60 else _) else bad c 1) else bad c 4 : Cv × An).2.e ≠ 0
  rcases e1 : memB c h
  · exact fun h => by cases h
  rcases e2 : Spa.rangeB c.s a b
  · exact fun h => by cases h
  rcases e3 : (Spa.partsS c.s a b).any (other h)
  · have := (free_iff hi h6 h a b).2 ⟨e2, e3⟩
    rw [e1, this] at hf
    cases hf
  · exact fun h => by cases h
theorem given_mem (c : Cv) (h a b k : Int) : memB (giveTo c (spanE h a b)) k = memB c k := rfl
theorem given_in {c : Cv} (hi : Inv c) (h6 : Spa.endF 0 c.s = 60) {h : Int} (hh : 0 ≤ h ∧ h < 8) {a b : Int} (hin : inB a b = true) :
    Inv (giveTo c (spanE h a b)) → Spa.endF 0 (giveTo c (spanE h a b)).s = 60 → (freeB (giveTo c (spanE h a b)) h a b = true ∧ ∀ k, k ≠ h → freeB (giveTo c (spanE h a b)) k a b = false) := by
  intro hd hd6
  obtain ⟨h1, h2, h3⟩ := inB_iff.1 hin
  have hc := Spa.ok_ch hd.sok
  have hw : ∀ k, Spa.who (giveTo c (spanE h a b)).s k = if a ≤ k ∧ k < b then some (h, c.t.last + 1) else Spa.who c.s k := fun k => Spa.giveS_who (Spa.ok_ch hi.sok) h1 h2 (by rw [h6]; exact h3) k
  have hov : ∀ s ∈ (giveTo c (spanE h a b)).s, a < s.to → s.fr < b → s.own = h := by
    intro s hs h4 h5
    have hm := hc.mem hs
    have h7 := Spa.who_mem hc hs (k := max s.fr a) (by omega)
    rw [hw, if_pos (by omega)] at h7
    injection h7 with h7
    injection h7 with h7 h8
    exact h7.symm
  constructor
  · unfold freeB
    rw [hin, Bool.true_and, List.all_eq_true]
    intro s hs
    rcases e : okF h a b s
    · obtain ⟨h4, h5, h7, h8⟩ := okF_false.1 e
      exact absurd (hov s hs h7 h8) h5
    · rfl
  · intro k hk
    unfold freeB
    rw [hin, Bool.true_and, List.all_eq_false]
    have h4 : ∃ s ∈ (giveTo c (spanE h a b)).s, s.fr ≤ a ∧ a < s.to := by
      have h5 := hw a
      rw [if_pos (by omega)] at h5
      generalize (giveTo c (spanE h a b)).s = l at h5
      clear hov hc hw hd hd6 hi
      induction l with
      | nil => cases h5
      | cons s r ih =>
        rw [Spa.who_cons] at h5
        split at h5
        · exact ⟨s, List.mem_cons_self, by assumption⟩
        · obtain ⟨x, hx, h6⟩ := ih h5; exact ⟨x, List.mem_cons_of_mem _ hx, h6⟩
    obtain ⟨s, hs, h5, h7⟩ := h4
    refine ⟨s, hs, ?_⟩
    have h8 := hov s hs h7 (by omega)
    rw [okF_false.2 ⟨by omega, by omega, h7, by omega⟩]
    exact fun h => by cases h
theorem all_take {l : List Sp} {k : Nat} {s : Sp} (h : l[k]? = some s) (f : Sp → Bool) : (l.take (k + 1)).all f = ((l.take k).all f && f s) := by
  rw [List.take_add_one, h]; simp
end Coo
end Go.Proofs.YtcpkgcckjphbfaaGreat
/-
  THE STATEMENT CoordSpans. For every input. (Written by gen_coolaws.py.)
-/
namespace Go.Proofs.YtcpkgcckjphbfaaGreat
open Go.RowKit Mem
namespace Coo
open Lea (Cells But OneBox Lv Tv)
open Spa (Sp)

set_option maxRecDepth 100000 in
set_option maxHeartbeats 25600000 in
theorem coordSpans_walk {L : Option Addr} {m lc : Nat} {l : List Ev} {w : World} (zones ttl host a b : Int) (hl : RowS cellsE 8 w L m lc l) :
    Calls Tryz.prog 6 #[.int .i64 zones, .int .i64 ttl, .slice L m lc, .int .i64 host, .int .i64 a, .int .i64 b] w fun e w' => e = .returned (.bool true) ∧ Below w.heap.size w w' := by
  have HF := fun W (h : Below w.heap.size w W) => Lib.hid (few_any (hl.below h))
  have HL := Lib.hid hl
  have HLN := Lib.hid hl.len
  have HBG := fun W => Lib.hid (begin_any zones ttl W)
  obtain ⟨r1, j1, a1, a2, a3, a4, a5, a6⟩ : ∃ (r : Int) (j : Nat), Int.tmod host 8 = r ∧ -8 < r ∧ r < 8 ∧ Int.tmod (r + 8) 8 = j ∧ (r + 8) % 8 = j ∧ j < 8 := Cut.cut_at host 8 (by omega)
  obtain ⟨h, hh⟩ : ∃ h : Int, h = (j1 : Int) := ⟨_, rfl⟩
  rw [← hh] at a4
  have hw1 : IntKind.i64.wrap (r1 + 8) = r1 + 8 := by rw [IntKind.wrap_i64]; omega
  have hw2 : IntKind.i64.wrap (2000 + h) = 2000 + h := by rw [IntKind.wrap_i64]; omega
  have HH : Hid (0 ≤ h ∧ h < 8) := ⟨by omega, by omega⟩
  clear hl hh a2 a3 a5 a6
  go_enter Tryz.func6, Tryz.ntmps6
  go_wp2_with fail
  refine (live_any w).mono ?_
  rintro e w1 ⟨rfl, hb⟩
  have L1 := Lib.hid hb
  clear hb
  have hF := HF w1 L1.out
  clear HF
  rcases hf : fewE l
  · rw [hf] at hF
    go_wp2_with fail
    refine hF.out.mono ?_
    rintro e w2 ⟨rfl, hb⟩
    have L2 := Lib.hid (L1.out.trans (hb.mono L1.out.size))
    clear hb
    go_wp2_with fail
    go_ret
    exact ⟨rfl, L2.out⟩
  rw [hf] at hF
  have FEW := Lib.hid (fewE_iff.1 hf)
  clear hf
  go_wp2_with fail
  refine hF.out.mono ?_
  rintro e w2 ⟨rfl, hb⟩
  have L2 := Lib.hid (L1.out.trans (hb.mono L1.out.size))
  clear hb L1 hF
  go_wp2_with fail
  refine (HBG w2).out.mono ?_
  rintro e w3 ⟨x, z, t, rfl, hz, ht, hp, hat, hb, -⟩
  have bb : Below w3.heap.size w3 (w3.alloc (.cells #[.int .i64 x.p.t.last, .int .i64 x.p.t.now, .slice x.A x.n x.a, .slice x.S x.m x.s, .slice x.W x.q x.k, .int .i64 x.p.ttl, .int .i64 x.p.zones] 31)) := (Below.refl _ w3).alloc (Nat.le_refl _) _
  have L4 : Hid (Below w.heap.size w (w3.alloc (.cells #[.int .i64 x.p.t.last, .int .i64 x.p.t.now, .slice x.A x.n x.a, .slice x.S x.m x.s, .slice x.W x.q x.k, .int .i64 x.p.ttl, .int .i64 x.p.zones] 31))) := (L2.out.trans (hb.mono L2.out.size)).trans (bb.mono (L2.out.trans (hb.mono L2.out.size)).size)
  have G4 : Hid (w.heap.size ≤ w3.heap.size) := (L2.out.trans (hb.mono L2.out.size)).size
  have C4 : Hid (CBox (w3.alloc (.cells #[.int .i64 x.p.t.last, .int .i64 x.p.t.now, .slice x.A x.n x.a, .slice x.S x.m x.s, .slice x.W x.q x.k, .int .i64 x.p.ttl, .int .i64 x.p.zones] 31)) w3.heap.size x) := Cells.new w3 _ _
  have A4 := Lib.hid (hat.below bb)
  have I4 : Hid (Inv x.p) := by rw [hp]; exact new_inv (by omega) (by omega) (by omega)
  have B4 : Hid (Bd x.p 0) := by rw [hp]; exact new_bd (by omega)
  have BL4 : Hid (Spa.endF 0 x.p.s = 60) := by rw [hp]; rfl
  clear bb hb hat hp hz ht HBG L2
  go_upto_region 8 with fail
  generalize w3.alloc (.cells #[.int .i64 x.p.t.last, .int .i64 x.p.t.now, .slice x.A x.n x.a, .slice x.S x.m x.s, .slice x.W x.q x.k, .int .i64 x.p.ttl, .int .i64 x.p.zones] 31) = w4 at *
  generalize w3.heap.size = gc at *
  have HA4 := Lib.hid (all_any A4.out (RowS.below HL.out L4.out) I4.out B4.out (by have := FEW.out.2; have := HLN.out; omega) (by have := FEW.out.2; have := HLN.out; omega) FEW.out.1)
  unfold Gone at HA4
  have I5 := Lib.hid (all_inv l I4.out)
  have B5 := Lib.hid ((all_bd l I4.out B4.out FEW.out.1).mono (show 0 + l.length ≤ 100 by have := FEW.out.2; omega))
  clear A4 B4 HL
  obtain ⟨m0, m1, m2, m3, m4, m5, m6⟩ := seven C4.out
  go_wp2_with fail
  clear m0 m1 m2 m3 m4 m5 m6
  refine HA4.out.mono ?_
  rintro e w5 ⟨X, B, es, rfl, hp, hat, -, -, -, hb, hfr, -⟩
  have L5 := Lib.hid (L4.out.trans (hb.mono L4.out.size))
  have C5 := Lib.hid (Lea.Cells.below C4.out hb)
  have IX : Hid (Inv X.p) := by rw [hp]; exact I5.out
  have BX : Hid (Bd X.p 100) := by rw [hp]; exact B5.out
  have bt := but_set7 w5 gc (.int .i64 X.p.t.last) (.int .i64 X.p.t.now) (.slice X.A X.n X.a) (.slice X.S X.m X.s) (.slice X.W X.q X.k) (.int .i64 X.p.ttl) (.int .i64 X.p.zones)
  have C6 := Lib.hid (cells_set7 C5.out (.int .i64 X.p.t.last) (.int .i64 X.p.t.now) (.slice X.A X.n X.a) (.slice X.S X.m X.s) (.slice X.W X.q X.k) (.int .i64 X.p.ttl) (.int .i64 X.p.zones))
  have hq : ∀ k, w4.heap.size ≤ k → k ≠ gc := fun k hk => by have := Lea.Cells.lt C4.out; omega
  have A6 := Lib.hid (hat.butBox bt (fun k o e => hq k (hfr.l k o e)) (fun k o e => hq k (hfr.s k o e)) (fun k o e => hq k (hfr.f k o e)))
  have L6 := Lib.hid (L5.out.trans (bt.below L5.out.size G4.out))
  obtain ⟨f0, f1, f2, f3, f4, f5, f6⟩ := seven_frozen C5.out
  obtain ⟨m0, m1, m2, m3, m4, m5, m6⟩ := seven C5.out
  have BLX : Hid (Spa.endF 0 X.p.s = 60) := by rw [hp]; exact (all_end l I4.out).trans BL4.out
  clear hp hat hb hfr hq bt C4 C5 HA4 L4 L5 I5 B5 FEW HLN
  go_upto_region 9 with fail
  clear f0 f1 f2 f3 f4 f5 f6 m0 m1 m2 m3 m4 m5 m6
  generalize ((((((w5.setCell ⟨gc, 0, none⟩ (.int .i64 X.p.t.last)).setCell ⟨gc, 1, none⟩ (.int .i64 X.p.t.now)).setCell ⟨gc, 2, none⟩ (.slice X.A X.n X.a)).setCell ⟨gc, 3, none⟩ (.slice X.S X.m X.s)).setCell ⟨gc, 4, none⟩ (.slice X.W X.q X.k)).setCell ⟨gc, 5, none⟩ (.int .i64 X.p.ttl)).setCell ⟨gc, 6, none⟩ (.int .i64 X.p.zones) = w6 at *
  have HNX : Hid (X.n ≤ 1000000 ∧ X.m ≤ 1000000 ∧ X.q ≤ 1000000) := ⟨by have h1 := A6.out.l.len; have h2 := BX.out.len; omega, by have h1 := A6.out.s.len; have h2 := IX.out.slen BX.out; omega, by have h1 := A6.out.f.len; have h2 := BX.out.wlen; omega⟩
  clear I4
  obtain ⟨mb, hmb⟩ : ∃ mb, memB X.p h = mb := ⟨_, rfl⟩
  have HM := Lib.hid (member_any h A6.out.l HNX.out.1 IX.out.tok)
  rw [hmb] at HM
  have MB := Lib.hid hmb
  clear hmb
  obtain ⟨m0, m1, m2, m3, m4, m5, m6⟩ := seven C6.out
  go_wp2_with fail
  refine HM.out.mono ?_
  rintro e w7 ⟨rfl, hb⟩
  have L7 := Lib.hid (L6.out.trans (hb.mono L6.out.size))
  have C7 := Lib.hid (Lea.Cells.below C6.out hb)
  have A7 := Lib.hid (A6.out.below hb)
  clear hb HM m0 m1 m2 m3 m4 m5 m6 L6 C6 A6
  go_upto_region 10 with fail
  go_cut [17] (fun s wx => s = .bool (inB a b) ∧ wx = w7)
  case first =>
    rcases e1 : decide (0 ≤ a)
    · go_wp2_with fail
      go_meet
      exact ⟨by unfold inB; rw [e1]; rfl, rfl⟩
    rcases e2 : decide (a < b)
    · go_wp2_with fail
      go_meet
      exact ⟨by unfold inB; rw [e1, e2]; rfl, rfl⟩
    rcases e3 : decide (b ≤ 60)
    all_goals
      go_wp2_with fail
      go_meet
      exact ⟨by unfold inB; rw [e1, e2, e3]; rfl, rfl⟩
  case rest =>
  obtain ⟨rfl, rfl⟩ := hcut
  obtain ⟨m0, m1, m2, m3, m4, m5, m6⟩ := seven C7.out
  have hbm := A7.out.s.big
  have HSL := Lib.hid A7.out.s.len
  go_wp2
  clear m0 m1 m2 m3 m4 m5 m6
  go_loopw [17, 67] (fun f i wr => ∃ j : Nat, f = .bool (inB a b && (X.p.s.take j).all (okF h a b)) ∧ i = .int .i64 j ∧ j ≤ X.m ∧ Hid (Below wc.heap.size wc wr)) (fun _ i _ => X.m - (intOf i).toNat)
  case atStart => exact ⟨0, by simp, rfl, by omega, Below.refl _ _⟩
  case round =>
    obtain ⟨j, rfl, rfl, hj, hH⟩ := hrel
    by_cases hlt : j < X.m
    · obtain ⟨s, hs⟩ := A7.out.s.get hlt
      obtain ⟨sb, so, hS, c0, c1, c2, c3⟩ := Spa.RowS.span_at (RowS.below A7.out.s hH.out) hs
      have hk0 : (0 : Int) ≤ (j : Int) := by omega
      have hk1 : (j : Int) < (X.m : Int) := by omega
      have b6 : Below wr.heap.size wr (wr.alloc (.cells #[.int .i64 s.fr, .int .i64 s.to, .int .i64 s.own, .int .i64 s.ep] 48)) := (Below.refl _ wr).alloc (Nat.le_refl _) _
      have L6 := Lib.hid (hH.out.trans (b6.mono hH.out.size))
      have X6 : Hid (Spa.LBox (wr.alloc (.cells #[.int .i64 s.fr, .int .i64 s.to, .int .i64 s.own, .int .i64 s.ep] 48)) wr.heap.size s) := Cells.new wr _ _
      have HTK : Hid ((inB a b && (X.p.s.take (j + 1)).all (okF h a b)) = ((inB a b && (X.p.s.take j).all (okF h a b)) && okF h a b s)) := by show _ = _; rw [all_take hs, Bool.and_assoc]
      generalize (inB a b && (X.p.s.take j).all (okF h a b)) = fb at *
      rw [hS]
      clear hs b6
      go_upto_region 14 with fail
      clear c0 c1 c2 c3
      generalize wr.alloc (.cells #[.int .i64 s.fr, .int .i64 s.to, .int .i64 s.own, .int .i64 s.ep] 48) = w13 at *
      generalize wr.heap.size = gx at *
      obtain ⟨y0, y1, y2, y3⟩ := Spa.LBox.cells X6.out
      have FIN : Hid (∀ r, r = (fb && okF h a b s) → ∃ j' : Nat, Value.bool r = .bool (inB a b && (X.p.s.take j').all (okF h a b)) ∧ Value.int .i64 ((j : Int) + 1) = .int .i64 j' ∧ j' ≤ X.m ∧ Hid (Below wc.heap.size wc w13)) := fun r hr => ⟨j + 1, by rw [HTK.out, hr], congrArg (Value.int .i64) (by omega), by omega, L6.out⟩
      cases fb
      · go_wp2_with fail
        go_roundw
        case rel => exact FIN.out _ rfl
        case measure => simp [intOf]; omega
      rcases e1 : decide (s.own < 0)
      case true =>
        go_wp2_with fail
        go_roundw
        case rel => exact FIN.out _ (by unfold okF; rw [e1]; rfl)
        case measure => simp [intOf]; omega
      rcases e2 : (s.own == h)
      case true =>
        go_wp2_with fail
        go_roundw
        case rel => exact FIN.out _ (by unfold okF; rw [e1, e2]; rfl)
        case measure => simp [intOf]; omega
      rcases e3 : decide (s.to ≤ a)
      case true =>
        go_wp2_with fail
        go_roundw
        case rel => exact FIN.out _ (by unfold okF; rw [e1, e2, e3]; rfl)
        case measure => simp [intOf]; omega
      rcases e4 : decide (b ≤ s.fr)
      all_goals
        go_wp2_with fail
        go_roundw
        case rel => exact FIN.out _ (by unfold okF; rw [e1, e2, e3, e4]; rfl)
        case measure => simp [intOf]; omega
    · obtain rfl : X.m = j := by omega
      obtain ⟨w8, hw8⟩ : ∃ W, W = wr := ⟨_, rfl⟩
      subst hw8
      have hfb : (inB a b && (X.p.s.take X.m).all (okF h a b)) = freeB X.p h a b := by unfold freeB; rw [List.take_of_length_le (by have := HSL.out; omega)]
      rw [hfb]
      have L8 := Lib.hid (L7.out.trans (hH.out.mono L7.out.size))
      have C8 := Lib.hid (Lea.Cells.below C7.out hH.out)
      have A8 := Lib.hid (A7.out.below hH.out)
      clear hH L7 C7 A7 hlt hfb
      obtain ⟨fb, hfb⟩ : ∃ fb, freeB X.p h a b = fb := ⟨_, rfl⟩
      rw [hfb]
      have FB := Lib.hid hfb
      clear hfb
      cases mb
      · have HKF : (memB X.p h && freeB X.p h a b) = false := by rw [MB.out, Bool.false_and]
        have HD8 := Lib.hid (do_call (e := spanE h a b) A8.out IX.out BX.out (by omega) (by show (0 : Int) ≤ _; omega))
        have her := span_bad IX.out BLX.out HH.out HKF
        have hes := err_same her
        unfold Did at HD8
        rw [hes] at HD8
        generalize (doC X.p (spanE h a b)).2.e = er at *
        generalize (doC X.p (spanE h a b)).2.epoch = ep at *
        have HER : Hid (er ≠ 0) := her
        have hne : (er != 0) = true := by simp only [bne_iff_ne, ne_eq]; exact her
        have heq : (er == 0) = false := by simp only [beq_eq_false_iff_ne, ne_eq]; exact her
        clear her hes
        obtain ⟨m0, m1, m2, m3, m4, m5, m6⟩ := seven C8.out
        go_wp2_with fail
        refine HD8.out.mono ?_
        rintro e w9 ⟨Y, Bt, nt, dt, rfl, hp, hat, -, hb, -⟩
        have b1 : Below w9.heap.size w9 (w9.alloc (.cells #[.int .i64 Y.p.t.last, .int .i64 Y.p.t.now, .slice Y.A Y.n Y.a, .slice Y.S Y.m Y.s, .slice Y.W Y.q Y.k, .int .i64 Y.p.ttl, .int .i64 Y.p.zones] 31)) := (Below.refl _ w9).alloc (Nat.le_refl _) _
        have b2 : Below w9.heap.size w9 ((w9.alloc (.cells #[.int .i64 Y.p.t.last, .int .i64 Y.p.t.now, .slice Y.A Y.n Y.a, .slice Y.S Y.m Y.s, .slice Y.W Y.q Y.k, .int .i64 Y.p.ttl, .int .i64 Y.p.zones] 31)).alloc (.cells #[.int .i64 er, .int .i64 ep, .slice Bt nt dt] 39)) := b1.trans (((Below.refl _ _).alloc (Nat.le_refl _) _).mono b1.size)
        have bA : Below w8.heap.size w8 ((w9.alloc (.cells #[.int .i64 Y.p.t.last, .int .i64 Y.p.t.now, .slice Y.A Y.n Y.a, .slice Y.S Y.m Y.s, .slice Y.W Y.q Y.k, .int .i64 Y.p.ttl, .int .i64 Y.p.zones] 31)).alloc (.cells #[.int .i64 er, .int .i64 ep, .slice Bt nt dt] 39)) := hb.trans (b2.mono hb.size)
        have L10 := Lib.hid (L8.out.trans (bA.mono L8.out.size))
        have C10 := Lib.hid (Lea.Cells.below C8.out bA)
        have A10 := Lib.hid (A8.out.below bA)
        have D10 : Hid (CBox ((w9.alloc (.cells #[.int .i64 Y.p.t.last, .int .i64 Y.p.t.now, .slice Y.A Y.n Y.a, .slice Y.S Y.m Y.s, .slice Y.W Y.q Y.k, .int .i64 Y.p.ttl, .int .i64 Y.p.zones] 31)).alloc (.cells #[.int .i64 er, .int .i64 ep, .slice Bt nt dt] 39)) w9.heap.size Y) := heap_alloc2_old w9 _ _
        have N10 : Hid (ABox ((w9.alloc (.cells #[.int .i64 Y.p.t.last, .int .i64 Y.p.t.now, .slice Y.A Y.n Y.a, .slice Y.S Y.m Y.s, .slice Y.W Y.q Y.k, .int .i64 Y.p.ttl, .int .i64 Y.p.zones] 31)).alloc (.cells #[.int .i64 er, .int .i64 ep, .slice Bt nt dt] 39)) (w9.heap.size + 1) er ep Bt nt dt) := heap_alloc2_new w9 _ _
        have Y10 := Lib.hid (hat.below b2)
        have HP := Lib.hid hp
        clear hp hat hb b1 b2 bA m0 m1 m2 m3 m4 m5 m6 L8 C8 A8 HD8
        go_upto_region 17 with fail
        generalize (w9.alloc (.cells #[.int .i64 Y.p.t.last, .int .i64 Y.p.t.now, .slice Y.A Y.n Y.a, .slice Y.S Y.m Y.s, .slice Y.W Y.q Y.k, .int .i64 Y.p.ttl, .int .i64 Y.p.zones] 31)).alloc (.cells #[.int .i64 er, .int .i64 ep, .slice Bt nt dt] 39) = w10 at *
        generalize w9.heap.size = gd at *
        have HSM := Lib.hid (same_any A10.out Y10.out HP.out HNX.out.1 HNX.out.2.1 HNX.out.2.2)
        obtain ⟨m0, m1, m2, m3, m4, m5, m6⟩ := seven C10.out
        obtain ⟨k0, k1, k2, k3, k4, k5, k6⟩ := seven D10.out
        obtain ⟨n0, n1, n2⟩ := ABox.cells N10.out
        go_wp2_with fail
        refine HSM.out.mono ?_
        rintro e w11 ⟨rfl, hb⟩
        have L11 := Lib.hid (L10.out.trans (hb.mono L10.out.size))
        clear hb
        go_wp2_with fail
        go_ret
        exact ⟨rfl, L11.out⟩
      cases fb
      · have HKF : (memB X.p h && freeB X.p h a b) = false := by rw [FB.out, Bool.and_false]
        have HD8 := Lib.hid (do_call (e := spanE h a b) A8.out IX.out BX.out (by omega) (by show (0 : Int) ≤ _; omega))
        have her := span_bad IX.out BLX.out HH.out HKF
        have hes := err_same her
        unfold Did at HD8
        rw [hes] at HD8
        generalize (doC X.p (spanE h a b)).2.e = er at *
        generalize (doC X.p (spanE h a b)).2.epoch = ep at *
        have HER : Hid (er ≠ 0) := her
        have hne : (er != 0) = true := by simp only [bne_iff_ne, ne_eq]; exact her
        have heq : (er == 0) = false := by simp only [beq_eq_false_iff_ne, ne_eq]; exact her
        clear her hes
        obtain ⟨m0, m1, m2, m3, m4, m5, m6⟩ := seven C8.out
        go_wp2_with fail
        refine HD8.out.mono ?_
        rintro e w9 ⟨Y, Bt, nt, dt, rfl, hp, hat, -, hb, -⟩
        have b1 : Below w9.heap.size w9 (w9.alloc (.cells #[.int .i64 Y.p.t.last, .int .i64 Y.p.t.now, .slice Y.A Y.n Y.a, .slice Y.S Y.m Y.s, .slice Y.W Y.q Y.k, .int .i64 Y.p.ttl, .int .i64 Y.p.zones] 31)) := (Below.refl _ w9).alloc (Nat.le_refl _) _
        have b2 : Below w9.heap.size w9 ((w9.alloc (.cells #[.int .i64 Y.p.t.last, .int .i64 Y.p.t.now, .slice Y.A Y.n Y.a, .slice Y.S Y.m Y.s, .slice Y.W Y.q Y.k, .int .i64 Y.p.ttl, .int .i64 Y.p.zones] 31)).alloc (.cells #[.int .i64 er, .int .i64 ep, .slice Bt nt dt] 39)) := b1.trans (((Below.refl _ _).alloc (Nat.le_refl _) _).mono b1.size)
        have bA : Below w8.heap.size w8 ((w9.alloc (.cells #[.int .i64 Y.p.t.last, .int .i64 Y.p.t.now, .slice Y.A Y.n Y.a, .slice Y.S Y.m Y.s, .slice Y.W Y.q Y.k, .int .i64 Y.p.ttl, .int .i64 Y.p.zones] 31)).alloc (.cells #[.int .i64 er, .int .i64 ep, .slice Bt nt dt] 39)) := hb.trans (b2.mono hb.size)
        have L10 := Lib.hid (L8.out.trans (bA.mono L8.out.size))
        have C10 := Lib.hid (Lea.Cells.below C8.out bA)
        have A10 := Lib.hid (A8.out.below bA)
        have D10 : Hid (CBox ((w9.alloc (.cells #[.int .i64 Y.p.t.last, .int .i64 Y.p.t.now, .slice Y.A Y.n Y.a, .slice Y.S Y.m Y.s, .slice Y.W Y.q Y.k, .int .i64 Y.p.ttl, .int .i64 Y.p.zones] 31)).alloc (.cells #[.int .i64 er, .int .i64 ep, .slice Bt nt dt] 39)) w9.heap.size Y) := heap_alloc2_old w9 _ _
        have N10 : Hid (ABox ((w9.alloc (.cells #[.int .i64 Y.p.t.last, .int .i64 Y.p.t.now, .slice Y.A Y.n Y.a, .slice Y.S Y.m Y.s, .slice Y.W Y.q Y.k, .int .i64 Y.p.ttl, .int .i64 Y.p.zones] 31)).alloc (.cells #[.int .i64 er, .int .i64 ep, .slice Bt nt dt] 39)) (w9.heap.size + 1) er ep Bt nt dt) := heap_alloc2_new w9 _ _
        have Y10 := Lib.hid (hat.below b2)
        have HP := Lib.hid hp
        clear hp hat hb b1 b2 bA m0 m1 m2 m3 m4 m5 m6 L8 C8 A8 HD8
        go_upto_region 17 with fail
        generalize (w9.alloc (.cells #[.int .i64 Y.p.t.last, .int .i64 Y.p.t.now, .slice Y.A Y.n Y.a, .slice Y.S Y.m Y.s, .slice Y.W Y.q Y.k, .int .i64 Y.p.ttl, .int .i64 Y.p.zones] 31)).alloc (.cells #[.int .i64 er, .int .i64 ep, .slice Bt nt dt] 39) = w10 at *
        generalize w9.heap.size = gd at *
        have HSM := Lib.hid (same_any A10.out Y10.out HP.out HNX.out.1 HNX.out.2.1 HNX.out.2.2)
        obtain ⟨m0, m1, m2, m3, m4, m5, m6⟩ := seven C10.out
        obtain ⟨k0, k1, k2, k3, k4, k5, k6⟩ := seven D10.out
        obtain ⟨n0, n1, n2⟩ := ABox.cells N10.out
        go_wp2_with fail
        refine HSM.out.mono ?_
        rintro e w11 ⟨rfl, hb⟩
        have L11 := Lib.hid (L10.out.trans (hb.mono L10.out.size))
        clear hb
        go_wp2_with fail
        go_ret
        exact ⟨rfl, L11.out⟩
      have HIN := Lib.hid (show inB a b = true by have := FB.out; unfold freeB at this; rw [Bool.and_eq_true] at this; exact this.1)
      obtain ⟨n1, hn1⟩ : ∃ n1, X.p.t.last + 1 = n1 := ⟨_, rfl⟩
      have hwn : IntKind.i64.wrap (n1 + 1) = n1 + 1 := by have h1 := BX.out.last; have h2 := last0 IX.out; rw [IntKind.wrap_i64]; omega
      have HD8 := Lib.hid (do_call (e := spanE h a b) A8.out IX.out BX.out (by omega) (by show (0 : Int) ≤ _; omega))
      have ID := Lib.hid (do_inv IX.out (spanE h a b))
      have BD := Lib.hid (do_bd IX.out BX.out (e := spanE h a b) (by show (0 : Int) ≤ _; omega))
      have ED := Lib.hid ((do_end IX.out (spanE h a b)).trans BLX.out)
      have hok := span_ok IX.out BLX.out HH.out MB.out FB.out
      rw [hok] at HD8 ID BD ED
      rw [hn1] at HD8
      have hgi := given_in IX.out BLX.out HH.out HIN.out ID.out ED.out
      unfold Did at HD8
      clear hok
      obtain ⟨m0, m1, m2, m3, m4, m5, m6⟩ := seven C8.out
      go_wp2_with fail
      refine HD8.out.mono ?_
      rintro e w9 ⟨Y, Bt, nt, dt, rfl, hp, hat, -, hb, -⟩
      have b1 : Below w9.heap.size w9 (w9.alloc (.cells #[.int .i64 Y.p.t.last, .int .i64 Y.p.t.now, .slice Y.A Y.n Y.a, .slice Y.S Y.m Y.s, .slice Y.W Y.q Y.k, .int .i64 Y.p.ttl, .int .i64 Y.p.zones] 31)) := (Below.refl _ w9).alloc (Nat.le_refl _) _
      have b2 : Below w9.heap.size w9 ((w9.alloc (.cells #[.int .i64 Y.p.t.last, .int .i64 Y.p.t.now, .slice Y.A Y.n Y.a, .slice Y.S Y.m Y.s, .slice Y.W Y.q Y.k, .int .i64 Y.p.ttl, .int .i64 Y.p.zones] 31)).alloc (.cells #[.int .i64 0, .int .i64 n1, .slice Bt nt dt] 39)) := b1.trans (((Below.refl _ _).alloc (Nat.le_refl _) _).mono b1.size)
      have bA : Below w8.heap.size w8 ((w9.alloc (.cells #[.int .i64 Y.p.t.last, .int .i64 Y.p.t.now, .slice Y.A Y.n Y.a, .slice Y.S Y.m Y.s, .slice Y.W Y.q Y.k, .int .i64 Y.p.ttl, .int .i64 Y.p.zones] 31)).alloc (.cells #[.int .i64 0, .int .i64 n1, .slice Bt nt dt] 39)) := hb.trans (b2.mono hb.size)
      have L10 := Lib.hid (L8.out.trans (bA.mono L8.out.size))
      have D10 : Hid (CBox ((w9.alloc (.cells #[.int .i64 Y.p.t.last, .int .i64 Y.p.t.now, .slice Y.A Y.n Y.a, .slice Y.S Y.m Y.s, .slice Y.W Y.q Y.k, .int .i64 Y.p.ttl, .int .i64 Y.p.zones] 31)).alloc (.cells #[.int .i64 0, .int .i64 n1, .slice Bt nt dt] 39)) w9.heap.size Y) := heap_alloc2_old w9 _ _
      have N10 : Hid (ABox ((w9.alloc (.cells #[.int .i64 Y.p.t.last, .int .i64 Y.p.t.now, .slice Y.A Y.n Y.a, .slice Y.S Y.m Y.s, .slice Y.W Y.q Y.k, .int .i64 Y.p.ttl, .int .i64 Y.p.zones] 31)).alloc (.cells #[.int .i64 0, .int .i64 n1, .slice Bt nt dt] 39)) (w9.heap.size + 1) 0 n1 Bt nt dt) := heap_alloc2_new w9 _ _
      have Y10 := Lib.hid (hat.below b2)
      have IY : Hid (Inv Y.p) := by rw [hp]; exact ID.out
      have BY : Hid (Bd Y.p 101) := by rw [hp]; exact BD.out
      have EY : Hid (Spa.endF 0 Y.p.s = 60) := by rw [hp]; exact ED.out
      have MY : Hid (memB Y.p h = true) := by rw [hp]; exact MB.out
      have FY : Hid (freeB Y.p h a b = true) := by rw [hp]; exact hgi.1
      have TY : Hid (Y.p.t.last = n1) := by rw [hp]; exact hn1
      clear hp hat hb b1 b2 bA m0 m1 m2 m3 m4 m5 m6 L8 C8 A8 HD8 ID BD ED hgi hn1 IX BX BLX MB FB HNX
      go_upto_region 17 with fail
      generalize (w9.alloc (.cells #[.int .i64 Y.p.t.last, .int .i64 Y.p.t.now, .slice Y.A Y.n Y.a, .slice Y.S Y.m Y.s, .slice Y.W Y.q Y.k, .int .i64 Y.p.ttl, .int .i64 Y.p.zones] 31)).alloc (.cells #[.int .i64 0, .int .i64 n1, .slice Bt nt dt] 39) = w10 at *
      generalize w9.heap.size = gd at *
      have HD9 := Lib.hid (do_call (e := spanE h a b) Y10.out IY.out BY.out (by omega) (by show (0 : Int) ≤ _; omega))
      have IE := Lib.hid (do_inv IY.out (spanE h a b))
      have BE := Lib.hid (do_bd IY.out BY.out (e := spanE h a b) (by show (0 : Int) ≤ _; omega))
      have EE := Lib.hid ((do_end IY.out (spanE h a b)).trans EY.out)
      have hok := span_ok IY.out EY.out HH.out MY.out FY.out
      rw [hok] at HD9 IE BE EE
      rw [TY.out] at HD9
      have hgi := given_in IY.out EY.out HH.out HIN.out IE.out EE.out
      unfold Did at HD9
      clear hok
      obtain ⟨m0, m1, m2, m3, m4, m5, m6⟩ := seven D10.out
      obtain ⟨n0, n1', n2⟩ := ABox.cells N10.out
      go_wp2_with fail
      refine HD9.out.mono ?_
      rintro e w11 ⟨Z, Bz, nz, dz, rfl, hp, hat, -, hb, -⟩
      have b1 : Below w11.heap.size w11 (w11.alloc (.cells #[.int .i64 Z.p.t.last, .int .i64 Z.p.t.now, .slice Z.A Z.n Z.a, .slice Z.S Z.m Z.s, .slice Z.W Z.q Z.k, .int .i64 Z.p.ttl, .int .i64 Z.p.zones] 31)) := (Below.refl _ w11).alloc (Nat.le_refl _) _
      have b2 : Below w11.heap.size w11 ((w11.alloc (.cells #[.int .i64 Z.p.t.last, .int .i64 Z.p.t.now, .slice Z.A Z.n Z.a, .slice Z.S Z.m Z.s, .slice Z.W Z.q Z.k, .int .i64 Z.p.ttl, .int .i64 Z.p.zones] 31)).alloc (.cells #[.int .i64 0, .int .i64 (n1 + 1), .slice Bz nz dz] 39)) := b1.trans (((Below.refl _ _).alloc (Nat.le_refl _) _).mono b1.size)
      have bA : Below w10.heap.size w10 ((w11.alloc (.cells #[.int .i64 Z.p.t.last, .int .i64 Z.p.t.now, .slice Z.A Z.n Z.a, .slice Z.S Z.m Z.s, .slice Z.W Z.q Z.k, .int .i64 Z.p.ttl, .int .i64 Z.p.zones] 31)).alloc (.cells #[.int .i64 0, .int .i64 (n1 + 1), .slice Bz nz dz] 39)) := hb.trans (b2.mono hb.size)
      have L12 := Lib.hid (L10.out.trans (bA.mono L10.out.size))
      have N12 := Lib.hid (Lea.Cells.below N10.out bA)
      have D12 : Hid (CBox ((w11.alloc (.cells #[.int .i64 Z.p.t.last, .int .i64 Z.p.t.now, .slice Z.A Z.n Z.a, .slice Z.S Z.m Z.s, .slice Z.W Z.q Z.k, .int .i64 Z.p.ttl, .int .i64 Z.p.zones] 31)).alloc (.cells #[.int .i64 0, .int .i64 (n1 + 1), .slice Bz nz dz] 39)) w11.heap.size Z) := heap_alloc2_old w11 _ _
      have M12 : Hid (ABox ((w11.alloc (.cells #[.int .i64 Z.p.t.last, .int .i64 Z.p.t.now, .slice Z.A Z.n Z.a, .slice Z.S Z.m Z.s, .slice Z.W Z.q Z.k, .int .i64 Z.p.ttl, .int .i64 Z.p.zones] 31)).alloc (.cells #[.int .i64 0, .int .i64 (n1 + 1), .slice Bz nz dz] 39)) (w11.heap.size + 1) 0 (n1 + 1) Bz nz dz) := heap_alloc2_new w11 _ _
      have Z12 := Lib.hid (hat.below b2)
      have IZ : Hid (Inv Z.p) := by rw [hp]; exact IE.out
      have BZ : Hid (Bd Z.p 102) := by rw [hp]; exact BE.out
      have EZ : Hid (Spa.endF 0 Z.p.s = 60) := by rw [hp]; exact EE.out
      have FZ : Hid (∀ k, k ≠ h → freeB Z.p k a b = false) := by rw [hp]; exact hgi.2
      clear hp hat hb b1 b2 bA m0 m1 m2 m3 m4 m5 m6 n0 n1' n2 L10 D10 N10 Y10 HD9 IE BE EE hgi IY BY EY MY FY TY
      go_upto_region 22 with fail
      generalize (w11.alloc (.cells #[.int .i64 Z.p.t.last, .int .i64 Z.p.t.now, .slice Z.A Z.n Z.a, .slice Z.S Z.m Z.s, .slice Z.W Z.q Z.k, .int .i64 Z.p.ttl, .int .i64 Z.p.zones] 31)).alloc (.cells #[.int .i64 0, .int .i64 (n1 + 1), .slice Bz nz dz] 39) = w12 at *
      generalize w11.heap.size = gz at *
      go_wp2
      go_loopw [131] (fun i wr => ∃ j : Nat, i = .int .i64 j ∧ j ≤ 8 ∧ Hid (Below w12.heap.size w12 wr)) (fun i _ => 8 - (intOf i).toNat)
      case atStart => exact ⟨0, rfl, by omega, Below.refl _ _⟩
      case round =>
        obtain ⟨j, rfl, hj, hH⟩ := hrel
        by_cases hlt : j < 8
        · have hd : decide ((j : Int) < 8) = true := decide_eq_true (by omega)
          by_cases hjh : (j : Int) = h
          · have hbe : ((j : Int) == h) = true := by simp only [beq_iff_eq]; exact hjh
            go_wp2_with fail
            go_roundw
            case rel => exact ⟨j + 1, by go_num, by omega, hH⟩
            case measure => simp [intOf]; omega
          · have hbe : ((j : Int) == h) = false := by simp only [beq_eq_false_iff_ne, ne_eq]; exact hjh
            have her : (doC Z.p (spanE (j : Int) a b)).2.e ≠ 0 := span_bad IZ.out EZ.out (by omega) (by rw [FZ.out _ hjh, Bool.and_false])
            have HDZ := Lib.hid (do_call (e := spanE (j : Int) a b) (Z12.out.below hH.out) IZ.out BZ.out (by omega) (by show (0 : Int) ≤ _; omega))
            unfold Did at HDZ
            generalize doC Z.p (spanE (j : Int) a b) = rz at *
            obtain ⟨zp, ⟨ze, zn, zt⟩⟩ := rz
            have hze : (ze == 0) = false := by simp only [beq_eq_false_iff_ne, ne_eq]; exact her
            have HJ : Hid (j < 8) := hlt
            clear her hjh hj hlt
            obtain ⟨m0, m1, m2, m3, m4, m5, m6⟩ := seven (Lea.Cells.below D12.out hH.out)
            go_wp2_with fail
            refine HDZ.out.mono ?_
            rintro e w16 ⟨Q, Bq, nq, dq, rfl, -, -, -, hb, -⟩
            have b1 : Below w16.heap.size w16 (w16.alloc (.cells #[.int .i64 Q.p.t.last, .int .i64 Q.p.t.now, .slice Q.A Q.n Q.a, .slice Q.S Q.m Q.s, .slice Q.W Q.q Q.k, .int .i64 Q.p.ttl, .int .i64 Q.p.zones] 31)) := (Below.refl _ w16).alloc (Nat.le_refl _) _
            have b2 : Below w16.heap.size w16 ((w16.alloc (.cells #[.int .i64 Q.p.t.last, .int .i64 Q.p.t.now, .slice Q.A Q.n Q.a, .slice Q.S Q.m Q.s, .slice Q.W Q.q Q.k, .int .i64 Q.p.ttl, .int .i64 Q.p.zones] 31)).alloc (.cells #[.int .i64 ze, .int .i64 zn, .slice Bq nq dq] 39)) := b1.trans (((Below.refl _ _).alloc (Nat.le_refl _) _).mono b1.size)
            have bA := hb.trans (b2.mono hb.size)
            have L17 := Lib.hid (hH.out.trans (bA.mono hH.out.size))
            have N17 : Hid (ABox ((w16.alloc (.cells #[.int .i64 Q.p.t.last, .int .i64 Q.p.t.now, .slice Q.A Q.n Q.a, .slice Q.S Q.m Q.s, .slice Q.W Q.q Q.k, .int .i64 Q.p.ttl, .int .i64 Q.p.zones] 31)).alloc (.cells #[.int .i64 ze, .int .i64 zn, .slice Bq nq dq] 39)) (w16.heap.size + 1) ze zn Bq nq dq) := heap_alloc2_new w16 _ _
            clear hb b1 b2 bA HDZ m0 m1 m2 m3 m4 m5 m6
            go_upto_region 27 with fail
            generalize (w16.alloc (.cells #[.int .i64 Q.p.t.last, .int .i64 Q.p.t.now, .slice Q.A Q.n Q.a, .slice Q.S Q.m Q.s, .slice Q.W Q.q Q.k, .int .i64 Q.p.ttl, .int .i64 Q.p.zones] 31)).alloc (.cells #[.int .i64 ze, .int .i64 zn, .slice Bq nq dq] 39) = w17 at *
            generalize w16.heap.size = gq at *
            obtain ⟨n0, n1', n2⟩ := ABox.cells N17.out
            have hj := HJ.out
            go_wp2_with fail
            go_roundw
            case rel => exact ⟨j + 1, by go_num, by omega, L17.out⟩
            case measure => simp [intOf]; omega
        · obtain rfl : j = 8 := by omega
          have L17 := Lib.hid (L12.out.trans (hH.out.mono L12.out.size))
          obtain ⟨n0, n1', n2⟩ := ABox.cells (Lea.Cells.below N12.out hH.out)
          obtain ⟨k0, k1, k2⟩ := ABox.cells (Lea.Cells.below M12.out hH.out)
          go_wp2_with fail
          go_ret
          exact ⟨rfl, L17.out⟩
end Coo
end Go.Proofs.YtcpkgcckjphbfaaGreat
/-
  A LAW'S ARGUMENTS: events. (Written by gen_cooargs.py.)
-/
namespace Go.Proofs.YtcpkgcckjphbfaaGreat
open Go.ChangeShapes Go.WideShapes Go.ChangeAt Go.RowKit Mem
open Coo
namespace Args
variable {H : Type} {enc : TypeId × Value → H} {W : World}

set_option maxRecDepth 100000 in
/-- An event's eight cells. -/
theorem raw_event {fuel : Nat} {cs : List Value} {x : DataW H × List MemPlace} (hf : DataW.trod enc Tryz.prog W 0 (fun _ => true) true fuel 36 cs = some x) (hl : cs.length = 8) :
    ∃ v : Ev, cs = cellsE v ∧ True := by
  have hu := Tryz.underlying36
  match cs, hl with
  | [c0, c1, c2, c3, c4, c5, c6, c7], _ =>
    obtain ⟨xs, n, _, hx, _, hlen, hg⟩ := DataW.trod_struct hu hf
    have hxl : xs.length = 8 := hlen
    match xs, hxl with
    | [y0, y1, y2, y3, y4, y5, y6, y7], _ =>
      have o3 : Tryz.prog.cellsOf 3 = 1 := by kernel_rfl
      have g0 := hg 0 _ rfl
      have g1 := hg 1 _ rfl
      have g2 := hg 2 _ rfl
      have g3 := hg 3 _ rfl
      have g4 := hg 4 _ rfl
      have g5 := hg 5 _ rfl
      have g6 := hg 6 _ rfl
      have g7 := hg 7 _ rfl
      simp [o3] at g0 g1 g2 g3 g4 g5 g6 g7
      obtain ⟨z0, h0, -, w0⟩ := DataW.trod_int Tryz.underlying3 g0
      obtain ⟨z1, h1, -, w1⟩ := DataW.trod_int Tryz.underlying3 g1
      obtain ⟨z2, h2, -, w2⟩ := DataW.trod_int Tryz.underlying3 g2
      obtain ⟨z3, h3, -, w3⟩ := DataW.trod_int Tryz.underlying3 g3
      obtain ⟨z4, h4, -, w4⟩ := DataW.trod_int Tryz.underlying3 g4
      obtain ⟨z5, h5, -, w5⟩ := DataW.trod_int Tryz.underlying3 g5
      obtain ⟨z6, h6, -, w6⟩ := DataW.trod_int Tryz.underlying3 g6
      obtain ⟨z7, h7, -, w7⟩ := DataW.trod_int Tryz.underlying3 g7
      simp only [List.cons.injEq, and_true] at h0 h1 h2 h3 h4 h5 h6 h7
      subst h0 h1 h2 h3 h4 h5 h6 h7
      exact ⟨⟨z0, z1, z2, z3, z4, z5, z6, z7⟩, rfl, trivial⟩
set_option maxRecDepth 100000 in
theorem open_events {v : Value} {d : DataW H} {p : List MemPlace} {base : Nat} (hok : Value.okWide Tryz.prog W .any base 22 v) (h : DataW.Trod enc Tryz.prog W 0 (fun _ => true) true 22 v d p)
    (hs : ∀ q ∈ d.weights Tryz.prog 22, q ≤ reachBytes) : ∃ A n c xs, v = .slice A n c ∧ RowS cellsE 8 W A n c xs := by
  obtain ⟨A, n, c, xs, h1, h2, -⟩ := open_rowS (cells := cellsE) (k := 8) (bytes := 64) (p := fun _ => True) Tryz.underlying22 (by kernel_rfl) (by kernel_rfl) (by omega) (by omega) (fun fuel cs x hf hl _ => raw_event hf hl) hok h hs
  exact ⟨A, n, c, xs, h1, h2⟩
end Args
end Go.Proofs.YtcpkgcckjphbfaaGreat
/-
  THE STATEMENT CoordSpans: its row. For every input. (Written by gen_coolaws.py.)
-/
namespace Go.Proofs.YtcpkgcckjphbfaaGreat
open Go.ChangeShapes Go.WideShapes Go.ChangeAt Go.RowKit Mem
namespace Coo

theorem coordSpans_says : Frame.Says Rows.coordSpansSpec 6 := by
  refine ⟨rfl, fun H ds h => ?_, fun H ds h => ?_, fun H ds h => ?_⟩ <;>
  · match ds, h with
    | [d0, d1, d2, d3, d4, d5], _ => rfl

set_option maxRecDepth 100000 in
theorem coordSpans_walks : Frame.Walks 6 [3, 3, 22, 3, 3, 3] := by
  intro H enc W args ds ps base hok hA hsz
  obtain ⟨v0, vs0, d0, ds0, p0, q0, hargs, rfl, rfl, h0, r0⟩ := trodAll_cons hA
  obtain ⟨v1, vs1, d1, ds1, p1, q1, rfl, rfl, rfl, h1, r1⟩ := trodAll_cons r0
  obtain ⟨v2, vs2, d2, ds2, p2, q2, rfl, rfl, rfl, h2, r2⟩ := trodAll_cons r1
  obtain ⟨v3, vs3, d3, ds3, p3, q3, rfl, rfl, rfl, h3, r3⟩ := trodAll_cons r2
  obtain ⟨v4, vs4, d4, ds4, p4, q4, rfl, rfl, rfl, h4, r4⟩ := trodAll_cons r3
  obtain ⟨v5, vs5, d5, ds5, p5, q5, rfl, rfl, rfl, h5, r5⟩ := trodAll_cons r4
  obtain ⟨rfl, rfl, rfl⟩ := trodAll_nil r5
  obtain rfl : args = #[v0, v1, v2, v3, v4, v5] := by cases args; simp_all
  obtain ⟨z, rfl, rfl, rfl, -⟩ := open_int Tryz.underlying3 (hok 0 _ v0 rfl rfl) h0
  obtain ⟨t, rfl, rfl, rfl, -⟩ := open_int Tryz.underlying3 (hok 1 _ v1 rfl rfl) h1
  obtain ⟨A, n, c, l, rfl, hL⟩ := Args.open_events (hok 2 _ v2 rfl rfl) h2 (Args.sized_arg hsz (j := 2) rfl rfl)
  obtain ⟨h, rfl, rfl, rfl, -⟩ := open_int Tryz.underlying3 (hok 3 _ v3 rfl rfl) h3
  obtain ⟨a, rfl, rfl, rfl, -⟩ := open_int Tryz.underlying3 (hok 4 _ v4 rfl rfl) h4
  obtain ⟨b, rfl, rfl, rfl, -⟩ := open_int Tryz.underlying3 (hok 5 _ v5 rfl rfl) h5
  exact coordSpans_walk z t h a b hL

set_option maxRecDepth 100000 in
theorem coordSpans_over : Rows.coordSpansRow.holds Tryz.pinned (OpenSpec.ofChange Rows.coordSpansSpec) :=
  OpenClaim.holds_of_wide 6 Tryz.f6 rfl rfl rfl rfl rfl rfl rfl ⟨rfl, rfl, rfl, rfl, rfl⟩ rfl rfl rfl rfl rfl (by kernel_rfl) Tryz.func6 (by kernel_rfl)
    (of_decide_eq_true (by kernel_rfl)) (by unfold Func.isWrapper; first | (rw [if_pos (by decide +kernel)]; kernel_rfl) | (rw [if_neg (by decide +kernel)]; exact ⟨rfl, rfl⟩))
    (fun os started H enc _ => Frame.lifted (started := started) Tryz.underlying4 (by kernel_rfl) Tryz.func6 (n := 6) (by rw [Tryz.params6]; rfl) coordSpans_says (by rw [Tryz.params6]; kernel_rfl) (by kernel_rfl)
      (ChangeSpec.witness6 (enc := enc) (C := Tryz.checked) false ⟨#[], #[.int .i64 0, .int .i64 0, .slice none 0 0, .int .i64 0, .int .i64 0, .int .i64 0], []⟩ 8 (by kernel_rfl) (by kernel_rfl) (by kernel_rfl) (by kernel_rfl))
      (by rw [Tryz.params6]; exact coordSpans_walks))
end Coo
/-- The given statement. -/
theorem coordSpans_holds : Rows.CoordSpansSaid := Coo.coordSpans_over
end Go.Proofs.YtcpkgcckjphbfaaGreat
