/-
  A WALK: an answer laid into what is known of one (dedup.with).
-/
import Derived.Test.YtndcflchdecofaaDedOf
import Derived.Test.YtndcflchdecofaaDedDel
import Derived.Test.YtndcflchdecofaaDedCloned
namespace Go.Proofs.Ytndcflchdecofaa
open Go.RowKit Mem Box
namespace Ded

theorem ins_mem {α : Type} {l : List α} {k : Nat} {x y : α} (h : y ∈ insP l k x) : y = x ∨ y ∈ l := by
  unfold insP at h
  simp only [List.mem_append, List.mem_singleton] at h
  rcases h with (h | h) | h
  · exact .inr (List.mem_of_mem_take h)
  · exact .inl h
  · exact .inr (List.mem_of_mem_drop h)
theorem ins_map {α β : Type} (f : α → β) (l : List α) (k : Nat) (x : α) : (insP l k x).map f = insP (l.map f) k (f x) := by
  unfold insP
  simp [List.map_take, List.map_drop]
theorem mov_grown {w w' : World} {r : Option Nat} (h : w.grownBy w' r) : Mov r.toList w w' := Mov.grown h fun j hj => .inl (by rw [hj]; simp)
/-- What a call made of one: where the row of answers lies. -/
def GaveW (base : Nat) (w : World) (s : Sx) (p : Sp) (e : Ending) (w' : World) : Prop := ∃ y, e = .returned (sxv y) ∧ y.p = p ∧ OwnX base w' y ∧ Mov s.ob.toList w w' ∧ (y.ob = s.ob ∨ ∀ k, y.ob = some k → w.heap.size ≤ k)
theorem withP_few {s : Sx} {a : Dx} (h : (insP s.l (atV (s.l.map Dx.id) a.id) a).length ≤ 8) : withP s.p a.p = ⟨s.f, s.b, (insP s.l (atV (s.l.map Dx.id) a.id) a).map Dx.p⟩ := by
  have e : insP s.p.l (atV (s.p.l.map Dp.id) a.p.id) a.p = (insP s.l (atV (s.l.map Dx.id) a.id) a).map Dx.p := by
    rw [ins_map]; unfold Sx.p; rw [List.map_map]; rfl
  unfold withP
  rw [e]
  rcases hh : (insP s.l (atV (s.l.map Dx.id) a.id) a).map Dx.p with _ | ⟨d, L⟩
  · exfalso
    have := congrArg List.length hh
    unfold insP at this
    simp at this
  · have h2 := congrArg List.length hh
    rw [List.length_map] at h2
    dsimp only
    rw [decide_eq_false (by omega)]
    rfl
theorem withP_many {s : Sx} {a : Dx} {d : Dx} {L : List Dx} (e0 : insP s.l (atV (s.l.map Dx.id) a.id) a = d :: L) (h : 8 < (d :: L).length) : withP s.p a.p = ⟨s.f, d.id + 1, L.map Dx.p⟩ := by
  have e : insP s.p.l (atV (s.p.l.map Dp.id) a.p.id) a.p = (insP s.l (atV (s.l.map Dx.id) a.id) a).map Dx.p := by
    rw [ins_map]; unfold Sx.p; rw [List.map_map]; rfl
  unfold withP
  rw [e, e0, List.map_cons]
  dsimp only
  rw [decide_eq_true (by simpa using h)]
  rfl
set_option maxRecDepth 100000 in
set_option maxHeartbeats 12800000 in
theorem with_any {base : Nat} {s : Sx} {a : Dx} {w : World} (h : OwnX base w s) (ha : OwnM base w a.m) (hbase : base ≤ w.heap.size) (hok : okD s.p) (hi : ∀ d ∈ s.l, d.id ≤ 1152921504606846976) (h0 : 0 ≤ a.id) (h1 : a.id ≤ 1152921504606846976) :
    Calls Try.prog 22 #[sxv s, dxv a] w (GaveW base w s (withP s.p a.p)) := by
  obtain ⟨r, hr⟩ : ∃ r, r = withP s.p a.p := ⟨_, rfl⟩
  rw [← hr]
  have HR := Lib.hid hr
  have H := Lib.hid h
  have HA := Lib.hid ha
  have HB := Lib.hid hbase
  have hlen : s.l.length = s.n := h.own.2
  have hn8 : s.n ≤ 8 := by have := hok.2.1; unfold Sx.p at this; rw [List.length_map, hlen] at this; exact this
  have hrd : (s.l.map Dx.id).Pairwise (· < ·) := by
    have := hok.2.2.2
    unfold Sx.p at this
    rwa [List.map_map] at this
  have HID : Hid (∀ d, d = a ∨ d ∈ s.l → 0 ≤ d.id ∧ d.id ≤ 1152921504606846976) := by
    rintro d (rfl | hd)
    · exact ⟨h0, h1⟩
    · refine ⟨?_, hi d hd⟩
      have hb0 := hok.1
      have := hok.2.2.1 d.p (by unfold Sx.p; exact List.mem_map.2 ⟨d, hd, rfl⟩)
      exact Int.le_trans hb0 this
  have HF := Lib.hid (fun W (hW : Below w.heap.size w W) => findSaid_any (v := a.id) ((h.any (by omega)).below hW) hrd)
  have hat : atV (s.l.map Dx.id) a.id ≤ s.n := by have := atV_le (s.l.map Dx.id) a.id; rwa [List.length_map, hlen] at this
  have HLEN := Lib.hid hlen
  have L1 : Hid (Below w.heap.size w (((w.alloc (.cells #[.int .i64 s.f, .int .i64 s.b, .slice s.A s.n s.c] 51)).alloc (.cells #[.int .i64 a.id, .int .i64 a.m.k, .int .i64 a.m.f, .int .i64 a.m.t, .int .i64 a.m.i, .slice a.m.A a.m.n a.m.c, .slice a.m.B a.m.m a.m.d] 56)).alloc (.cells #[.int .i64 0, .int .i64 0, .slice none 0 0] 51))) := ((((Below.refl _ w).alloc (by first | exact Nat.le_refl _ | (simp; try omega)) _).alloc (by first | exact Nat.le_refl _ | (simp; try omega)) _).alloc (by first | exact Nat.le_refl _ | (simp; try omega)) _)
  have X1 : Hid (Cells (((w.alloc (.cells #[.int .i64 s.f, .int .i64 s.b, .slice s.A s.n s.c] 51)).alloc (.cells #[.int .i64 a.id, .int .i64 a.m.k, .int .i64 a.m.f, .int .i64 a.m.t, .int .i64 a.m.i, .slice a.m.A a.m.n a.m.c, .slice a.m.B a.m.m a.m.d] 56)).alloc (.cells #[.int .i64 0, .int .i64 0, .slice none 0 0] 51)) (w.heap.size) 51 #[.int .i64 s.f, .int .i64 s.b, .slice s.A s.n s.c]) := by
    have := Cells.new w #[.int .i64 s.f, .int .i64 s.b, .slice s.A s.n s.c] 51
    (try simp only [World.size_alloc] at this)
    exact (Cells.alloc (Cells.alloc this _) _)
  have A1 : Hid (Cells (((w.alloc (.cells #[.int .i64 s.f, .int .i64 s.b, .slice s.A s.n s.c] 51)).alloc (.cells #[.int .i64 a.id, .int .i64 a.m.k, .int .i64 a.m.f, .int .i64 a.m.t, .int .i64 a.m.i, .slice a.m.A a.m.n a.m.c, .slice a.m.B a.m.m a.m.d] 56)).alloc (.cells #[.int .i64 0, .int .i64 0, .slice none 0 0] 51)) (w.heap.size + 1) 56 #[.int .i64 a.id, .int .i64 a.m.k, .int .i64 a.m.f, .int .i64 a.m.t, .int .i64 a.m.i, .slice a.m.A a.m.n a.m.c, .slice a.m.B a.m.m a.m.d]) := by
    have := Cells.new (w.alloc (.cells #[.int .i64 s.f, .int .i64 s.b, .slice s.A s.n s.c] 51)) #[.int .i64 a.id, .int .i64 a.m.k, .int .i64 a.m.f, .int .i64 a.m.t, .int .i64 a.m.i, .slice a.m.A a.m.n a.m.c, .slice a.m.B a.m.m a.m.d] 56
    (try simp only [World.size_alloc] at this)
    exact (Cells.alloc this _)
  have Z1 : Hid (Cells (((w.alloc (.cells #[.int .i64 s.f, .int .i64 s.b, .slice s.A s.n s.c] 51)).alloc (.cells #[.int .i64 a.id, .int .i64 a.m.k, .int .i64 a.m.f, .int .i64 a.m.t, .int .i64 a.m.i, .slice a.m.A a.m.n a.m.c, .slice a.m.B a.m.m a.m.d] 56)).alloc (.cells #[.int .i64 0, .int .i64 0, .slice none 0 0] 51)) (w.heap.size + 2) 51 #[.int .i64 0, .int .i64 0, .slice none 0 0]) := by
    have := Cells.new ((w.alloc (.cells #[.int .i64 s.f, .int .i64 s.b, .slice s.A s.n s.c] 51)).alloc (.cells #[.int .i64 a.id, .int .i64 a.m.k, .int .i64 a.m.f, .int .i64 a.m.t, .int .i64 a.m.i, .slice a.m.A a.m.n a.m.c, .slice a.m.B a.m.m a.m.d] 56)) #[.int .i64 0, .int .i64 0, .slice none 0 0] 51
    (try simp only [World.size_alloc] at this)
    exact this
  have SZ : Hid ((((w.alloc (.cells #[.int .i64 s.f, .int .i64 s.b, .slice s.A s.n s.c] 51)).alloc (.cells #[.int .i64 a.id, .int .i64 a.m.k, .int .i64 a.m.f, .int .i64 a.m.t, .int .i64 a.m.i, .slice a.m.A a.m.n a.m.c, .slice a.m.B a.m.m a.m.d] 56)).alloc (.cells #[.int .i64 0, .int .i64 0, .slice none 0 0] 51)).heap.size = w.heap.size + 3) := by show _ = _; simp
  have G1 : Hid (Mov s.ob.toList w (((w.alloc (.cells #[.int .i64 s.f, .int .i64 s.b, .slice s.A s.n s.c] 51)).alloc (.cells #[.int .i64 a.id, .int .i64 a.m.k, .int .i64 a.m.f, .int .i64 a.m.t, .int .i64 a.m.i, .slice a.m.A a.m.n a.m.c, .slice a.m.B a.m.m a.m.d] 56)).alloc (.cells #[.int .i64 0, .int .i64 0, .slice none 0 0] 51))) := Mov.of_below _ L1.out
  obtain ⟨N, hN⟩ : ∃ N, N = insP s.l (atV (s.l.map Dx.id) a.id) a := ⟨_, rfl⟩
  unfold sxv dxv
  clear h ha hr hok hi h0 h1 hrd hbase hlen
  generalize hasV (s.l.map Dx.id) a.id = hv at *
  go_enter Try.func22, Try.ntmps22
  go_upto_region 1 with fail
  generalize (((w.alloc (.cells #[.int .i64 s.f, .int .i64 s.b, .slice s.A s.n s.c] 51)).alloc (.cells #[.int .i64 a.id, .int .i64 a.m.k, .int .i64 a.m.f, .int .i64 a.m.t, .int .i64 a.m.i, .slice a.m.A a.m.n a.m.c, .slice a.m.B a.m.m a.m.d] 56)).alloc (.cells #[.int .i64 0, .int .i64 0, .slice none 0 0] 51)) = w1 at *
  obtain ⟨m0, m1, m2⟩ := SBox.cells (x := s) X1.out
  obtain ⟨a0, a1, a2, a3, a4, a5, a6⟩ := DBox.cells (x := a) A1.out
  go_upto_region 2 with (go_at_call 17; refine (HF.out _ L1.out).mono ?_; rintro e w2 ⟨rfl, hb⟩; have L2 := Lib.hid (L1.out.trans (hb.mono L1.out.size)); have X2 := Lib.hid (Cells.below X1.out hb); have A2 := Lib.hid (Cells.below A1.out hb); have Z2 := Lib.hid (Cells.below Z1.out hb); clear hb m0 m1 m2 a0 a1 a2 a3 a4 a5 a6; obtain ⟨m0, m1, m2⟩ := SBox.cells (x := s) X2.out; obtain ⟨a0, a1, a2, a3, a4, a5, a6⟩ := DBox.cells (x := a) A2.out; obtain ⟨f0, f1, f2⟩ := three_free X2.out)
  have b3 : Below w2.heap.size w2 (w2.alloc (.cells #[.int .i64 a.id, .int .i64 a.m.k, .int .i64 a.m.f, .int .i64 a.m.t, .int .i64 a.m.i, .slice a.m.A a.m.n a.m.c, .slice a.m.B a.m.m a.m.d] 56)) := (Below.refl _ w2).alloc (Nat.le_refl _) _
  have L3 := Lib.hid (L2.out.trans (b3.mono L2.out.size))
  have Q3 : Hid (DBox (w2.alloc (.cells #[.int .i64 a.id, .int .i64 a.m.k, .int .i64 a.m.f, .int .i64 a.m.t, .int .i64 a.m.i, .slice a.m.A a.m.n a.m.c, .slice a.m.B a.m.m a.m.d] 56)) w2.heap.size a) := Cells.new _ _ _
  have X3 := Lib.hid (Cells.below X2.out b3)
  have Z3 := Lib.hid (Cells.below Z2.out b3)
  have O3 := Lib.hid (OwnD.below H.out L3.out)
  have N3 := Lib.hid (HA.out.below L3.out)
  have QN : Hid (∀ k, (Value.slice s.A s.n s.c).ownBlock = some k → w2.heap.size ≠ k) := fun k hk => by
    have := (OwnS.Owns.lt H.out.own k hk).2
    have := L2.out.size
    omega
  have HI := Lib.hid (insertD O3.out.own hat Q3.out QN.out (Nat.le_trans HB.out L3.out.size) (by omega))
  rw [← hN] at HI
  obtain ⟨M, hM⟩ : ∃ M, M = s.n + 1 := ⟨_, rfl⟩
  rw [← hM] at HI
  have HMM := Lib.hid hM
  have HN8 := Lib.hid hn8
  have HNM : Hid (∀ d ∈ N, d = a ∨ d ∈ s.l) := fun d hd => by rw [hN] at hd; exact ins_mem hd
  have HNN := Lib.hid hN
  have HNL : Hid (N.length = M) := by
    show _ = _
    rw [hN, hM]
    unfold insP
    have := HLEN.out
    simp only [List.length_append, List.length_take, List.length_drop, List.length_singleton]
    omega
  clear b3 hN hM HF QN X2 A2 Z2 hn8
  go_upto_region 3 with (go_at_call 40; refine HI.out.mono ?_; rintro e w4 ⟨⟨B, d, rfl, hO, hNW⟩, hg⟩; have cg : Chg 56 s.ob _ w4 := Chg.own O3.out.own hg; have X4 := Lib.hid (cg.cells X3.out (by decide)); have Z4 := Lib.hid (cg.cells Z3.out (by decide)); have O4 := Lib.hid hO; have M4 : Hid (∀ d ∈ N, OwnM base w4 d.m) := (fun d hd => by
      rcases HNM.out d hd with rfl | h
      · exact N3.out.chg cg (by decide) (by decide)
      · exact (O3.out.at_ d h).chg cg (by decide) (by decide)); have G4 : Hid (Mov s.ob.toList w w4) := Lib.hid ((Mov.of_below _ L3.out).trans (mov_grown hg) (fun _ h => .inl h)); have NW4 : Hid ((Value.slice B M d).ownBlock = s.ob ∨ ∀ k, (Value.slice B M d).ownBlock = some k → w.heap.size ≤ k) := hNW.imp id (fun h k hk => Nat.le_trans L3.out.size (h k hk)); clear hg cg hO hNW m0 m1 m2 f0 f1 f2 a0 a1 a2 a3 a4 a5 a6; obtain ⟨m0, m1, m2⟩ := SBox.cells (x := s) X4.out; obtain ⟨f0, f1, f2⟩ := three_free X4.out)
  have bt : Mov [w.heap.size] w4 (w4.setCell ⟨w.heap.size, 2, none⟩ (.slice B M d)) := Mov.set1 w4 (by simp) 2 _
  have cg := Chg.mov X4.out bt
  have G5 := Lib.hid (G4.out.trans bt (fun x hx => .inr (by rw [List.mem_singleton.1 hx]; exact Nat.le_refl _)))
  have X5 : Hid (SBox (w4.setCell ⟨w.heap.size, 2, none⟩ (.slice B M d)) w.heap.size ⟨s.f, s.b, B, M, d, N⟩) := by show Cells _ _ _ _; simpa using Cells.set_ X4.out 2 (.slice B M d)
  have Z5 := Lib.hid (Cells.mov Z4.out bt (by simp))
  have O5 := Lib.hid (cg.owns O4.out (by decide))
  have M5 := Lib.hid (fun y hy => (M4.out y hy).chg cg (by decide) (by decide))
  clear bt cg m0 m1 m2 f0 f1 f2 HI O3 N3 X3 Z3 L3 Q3 X4 Z4 O4 M4 G4 H HA L1 L2 X1 A1 Z1 G1 SZ HNM
  generalize w4.setCell ⟨w.heap.size, 2, none⟩ (.slice B M d) = w5 at *
  clear w4 w1
  generalize w2.heap.size = pq at *
  obtain ⟨m0, m1, m2⟩ := SBox.cells X5.out
  dsimp only at m0 m1 m2
  rcases e8 : decide (8 < M)
  · have hp1 : decide ((M : Int) > 8) = false := decide_eq_false (by have := of_decide_eq_false e8; omega)
    have HE : Hid (r = ⟨s.f, s.b, N.map Dx.p⟩) := by
      show r = _
      rw [HR.out, HNN.out]
      exact withP_few (by rw [← HNN.out, HNL.out]; have := of_decide_eq_false e8; omega)
    clear e8
    go_upto_region 6 with fail
    clear m0 m1 m2
    obtain ⟨m0, m1, m2⟩ := SBox.cells X5.out
    obtain ⟨z0, z1, z2⟩ := SBox.cells (x := s0) Z5.out
    obtain ⟨f0, f1, f2⟩ := three_free Z5.out
    dsimp only [s0] at m0 m1 m2 z0 z1 z2
    go_wp2_with fail
    have bt := Mov.set3 w5 (w.heap.size + 2) (.int .i64 s.f) (.int .i64 s.b) (.slice B M d)
    have cg := Chg.mov Z5.out bt
    refine bodyPost_ret_by (results_c0 rfl _ _ (w.heap.size + 2) _ _ _ _ rfl (Cells.set3 Z5.out (.int .i64 s.f) (.int .i64 s.b) (.slice B M d)) Try.underlying51 rfl (by kernel_rfl)) rfl ?_
    rw [HE.out]
    exact ⟨⟨s.f, s.b, B, M, d, N⟩, rfl, rfl, ⟨cg.owns O5.out (by decide), fun y hy => (M5.out y hy).chg cg (by decide) (by decide)⟩, G5.out.trans bt (fun x hx => .inr (by rw [List.mem_singleton.1 hx]; omega)), NW4.out⟩
  · have hp1 : decide ((M : Int) > 8) = true := decide_eq_true (by have := of_decide_eq_true e8; omega)
    have hM0 : (0 : Int) < (M : Int) := by have := of_decide_eq_true e8; omega
    obtain ⟨d0, L, hL⟩ : ∃ d0 L, N = d0 :: L := by
      cases hN : N with
      | nil => exfalso; have h1 := HNL.out; have := of_decide_eq_true e8; rw [hN] at h1; simp at h1; omega
      | cons x l => exact ⟨x, l, rfl⟩
    have HE : Hid (r = ⟨s.f, d0.id + 1, L.map Dx.p⟩) := by
      show r = _
      rw [HR.out]
      exact withP_many (by rw [← HNN.out, hL]) (by rw [← hL, HNL.out]; exact of_decide_eq_true e8)
    have HW : Hid (IntKind.i64.wrap (d0.id + 1) = d0.id + 1) := by
      show _ = _
      have := HID.out d0 (ins_mem (l := s.l) (k := atV (s.l.map Dx.id) a.id) (by rw [← HNN.out, hL]; simp))
      rw [IntKind.wrap_i64]
      omega
    have hw := HW.out
    have HLL := Lib.hid hL
    obtain ⟨g, cur, hB, hbg, -⟩ := O5.out.place (by have := of_decide_eq_true e8; omega)
    subst hB
    have c0 := O5.out.cell fitD (i := 0) (x := d0) (by rw [hL]; rfl) 0 _ rfl
    rw [Nat.zero_mul, Nat.add_zero] at c0
    clear e8 hL hbg
    obtain ⟨f0, f1, f2⟩ := three_free X5.out
    go_upto_region 5 with fail
    have bt : Mov [w.heap.size] w5 (w5.setCell ⟨w.heap.size, 1, none⟩ (.int .i64 (d0.id + 1))) := Mov.set1 w5 (by simp) 1 _
    have cg := Chg.mov X5.out bt
    have G6 := Lib.hid (G5.out.trans bt (fun x hx => .inr (by rw [List.mem_singleton.1 hx]; exact Nat.le_refl _)))
    have X6 : Hid (SBox (w5.setCell ⟨w.heap.size, 1, none⟩ (.int .i64 (d0.id + 1))) w.heap.size ⟨s.f, d0.id + 1, some ⟨g, 0, none⟩, M, d, N⟩) := by show Cells _ _ _ _; simpa using Cells.set_ X5.out 1 (.int .i64 (d0.id + 1))
    have Z6 := Lib.hid (Cells.mov Z5.out bt (by simp))
    have O6 := Lib.hid (cg.owns O5.out (by decide))
    have M6 := Lib.hid (fun y hy => (M5.out y hy).chg cg (by decide) (by decide))
    clear bt cg m0 m1 m2 f0 f1 f2 c0 hw hp1 X5 Z5 O5 M5 G5
    generalize w5.setCell ⟨w.heap.size, 1, none⟩ (.int .i64 (d0.id + 1)) = w6 at *
    clear w5
    obtain ⟨m0, m1, m2⟩ := SBox.cells X6.out
    obtain ⟨f0, f1, f2⟩ := three_free X6.out
    dsimp only at m0 m1 m2
    have HD := Lib.hid (show Calls Try.prog 41 #[.slice (some ⟨g, 0, none⟩) M d, .int .i64 0, .int .i64 1] w6 _ from deleteD (i := 0) (j := 1) (m := s.n) rfl HMM.out.symm O6.out (by have := HMM.out; omega) (by have := HMM.out; have := HN8.out; omega))
    rw [show N.take 0 ++ N.drop 1 = L by rw [HLL.out]; rfl] at HD
    go_upto_region 6 with (go_at_call 41; refine HD.out.mono ?_; rintro e w7 ⟨rfl, hO, hg⟩; have cg := Chg.own O6.out hg; have X7 := Lib.hid (cg.cells X6.out (by decide)); have Z7 := Lib.hid (cg.cells Z6.out (by decide)); have O7 := Lib.hid hO; have M7 : Hid (∀ y ∈ L, OwnM base w7 y.m) := (fun y hy => (M6.out y (by rw [HLL.out]; exact List.mem_cons_of_mem _ hy)).chg cg (by decide) (by decide)); have G7 : Hid (Mov s.ob.toList w w7) := Lib.hid (G6.out.trans (mov_grown hg) (fun x hx => by
        rcases NW4.out with h | h
        · exact .inl (h ▸ hx)
        · exact .inr (h x (by simpa using hx)))); clear hg cg hO m0 m1 m2 f0 f1 f2; obtain ⟨m0, m1, m2⟩ := SBox.cells X7.out; dsimp only at m0 m1 m2; obtain ⟨f0, f1, f2⟩ := three_free X7.out)
    have bt : Mov [w.heap.size] w7 (w7.setCell ⟨w.heap.size, 2, none⟩ (.slice (some ⟨g, 0, none⟩) s.n d)) := Mov.set1 w7 (by simp) 2 _
    have cg := Chg.mov X7.out bt
    have G8 := Lib.hid (G7.out.trans bt (fun x hx => .inr (by rw [List.mem_singleton.1 hx]; exact Nat.le_refl _)))
    have X8 : Hid (SBox (w7.setCell ⟨w.heap.size, 2, none⟩ (.slice (some ⟨g, 0, none⟩) s.n d)) w.heap.size ⟨s.f, d0.id + 1, some ⟨g, 0, none⟩, s.n, d, L⟩) := by show Cells _ _ _ _; simpa using Cells.set_ X7.out 2 (.slice (some ⟨g, 0, none⟩) s.n d)
    have Z8 := Lib.hid (Cells.mov Z7.out bt (by simp))
    have O8 := Lib.hid (cg.owns O7.out (by decide))
    have M8 := Lib.hid (fun y hy => (M7.out y hy).chg cg (by decide) (by decide))
    clear bt cg m0 m1 m2 f0 f1 f2 X7 Z7 O7 M7 G7 X6 Z6 O6 M6 G6 HD
    generalize w7.setCell ⟨w.heap.size, 2, none⟩ (.slice (some ⟨g, 0, none⟩) s.n d) = w8 at *
    obtain ⟨m0, m1, m2⟩ := SBox.cells X8.out
    obtain ⟨z0, z1, z2⟩ := SBox.cells (x := s0) Z8.out
    obtain ⟨f0, f1, f2⟩ := three_free Z8.out
    dsimp only [s0] at m0 m1 m2 z0 z1 z2
    go_wp2_with fail
    have bt := Mov.set3 w8 (w.heap.size + 2) (.int .i64 s.f) (.int .i64 (d0.id + 1)) (.slice (some ⟨g, 0, none⟩) s.n d)
    have cg := Chg.mov Z8.out bt
    refine bodyPost_ret_by (results_c0 rfl _ _ (w.heap.size + 2) _ _ _ _ rfl (Cells.set3 Z8.out (.int .i64 s.f) (.int .i64 (d0.id + 1)) (.slice (some ⟨g, 0, none⟩) s.n d)) Try.underlying51 rfl (by kernel_rfl)) rfl ?_
    rw [HE.out]
    exact ⟨⟨s.f, d0.id + 1, some ⟨g, 0, none⟩, s.n, d, L⟩, rfl, rfl, ⟨cg.owns O8.out (by decide), fun y hy => (M8.out y hy).chg cg (by decide) (by decide)⟩, G8.out.trans bt (fun x hx => .inr (by rw [List.mem_singleton.1 hx]; omega)), NW4.out⟩
end Ded
end Go.Proofs.Ytndcflchdecofaa
