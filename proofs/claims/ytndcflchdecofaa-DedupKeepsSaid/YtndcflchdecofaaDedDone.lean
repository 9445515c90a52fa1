/-
  A WALK: dedup.Done.
-/
import Derived.Test.YtndcflchdecofaaDedAsk
import Derived.Test.YtndcflchdecofaaDedInsS
import Derived.Test.YtndcflchdecofaaDedWith
namespace Go.Proofs.Ytndcflchdecofaa
open Go.RowKit Mem Box
namespace Ded
open Net (Mp Mx MAt mxv MBox)

theorem Chg.ownM {α : Type} {cells : α → List Value} {t : TypeId} {k base n c : Nat} {A : Option Addr} {l : List α} {w w' : World} (h : OwnS.Owns cells k t base w (.slice A n c) n l) (hm : Mov (Value.slice A n c).ownBlock.toList w w') : Chg t (Value.slice A n c).ownBlock w w' :=
  ⟨⟨hm.os, hm.tape, hm.output, hm.size, fun q hq hn => hm.block q hq (fun hh => hn (by simpa [eq_comm] using hh))⟩, fun _ hq => (h.block hq).imp fun _ hh => hh.1⟩
/-- What a call gave: a list, and an error. -/
def GaveD (w : World) (r : List Sp × Int) (e : Ending) (w' : World) : Prop := ∃ B m d l, e = .returned (.tuple #[.slice B m d, .int .i64 r.2]) ∧ ListAt w' B m d l ∧ l.map Sx.p = r.1 ∧ Below w.heap.size w w'
theorem with_len (s : Sp) (a : Dp) : (withP s a).l.length ≤ s.l.length + 1 := by
  unfold withP
  have hl : (insP s.l (atV (s.l.map Dp.id) a.id) a).length ≤ s.l.length + 1 := by
    unfold insP
    simp only [List.length_append, List.length_take, List.length_drop, List.length_singleton]
    have := atV_le (s.l.map Dp.id) a.id
    rw [List.length_map] at this
    omega
  split
  · omega
  · rename_i d L e
    rw [e] at hl
    cases decide (8 < (d :: L).length) <;> simp at * <;> omega
theorem gaveD_put {w w' : World} {r : List Sp × Int} {pl : List Sp} {f : Int} {a : Dp} {lo : List Sx} {k nn dd : Nat} {B : Option Addr} {y z : Sx} (hE : r = (putP pl f a, 0)) (hlo : lo.map Sx.p = outP pl f) (hg : lo[k]? = some y) (hz : z.p = withP y.p a) (hk : atV (pl.map Sp.f) f = k)
    (hO : OwnS.Owns cellsS 3 51 w.heap.size w' (.slice B nn dd) nn (lo.set k z)) (hx : ∀ u ∈ lo.set k z, OwnX w.heap.size w' u) (hnn : nn ≤ 1000000) (h8 : ∀ u ∈ lo, u.n ≤ 8) (_hok : okD y.p) (hb : Below w.heap.size w w') :
    GaveD w r (.returned (.tuple #[.slice B nn dd, .int .i64 0])) w' := by
  refine ⟨B, nn, dd, lo.set k z, by rw [hE], ⟨hO.row fitS (by omega), fun u hu => OwnD.any (hx u hu) ?_⟩, ?_, hb⟩
  · obtain ⟨j, hj⟩ := List.mem_iff_getElem?.1 hu
    rw [List.getElem?_set] at hj
    split at hj
    · split at hj
      · injection hj with hj
        subst hj
        have h1 := with_len y.p a
        rw [← hz] at h1
        unfold Sx.p at h1
        rw [List.length_map, List.length_map] at h1
        have h2 : z.l.length = z.n := (hx z hu).own.2
        have h3 := h8 y (List.mem_of_getElem? hg)
        have h4 := _hok.2.1
        unfold Sx.p at h4
        rw [List.length_map] at h4
        omega
      · cases hj
    · have := h8 u (List.mem_of_getElem? hj); omega
  · rw [hE, List.map_set, hlo, hz]
    unfold putP
    rw [hk, ← hlo, List.getElem?_map, hg]
    rfl
theorem apart_of {l : List Sx} (h : l.Pairwise Apart) {k : Nat} {y : Sx} (hy : l[k]? = some y) : ∀ j u, j ≠ k → l[j]? = some u → u.ob = none ∨ u.ob ≠ y.ob := by
  intro j u hj hu
  obtain ⟨a1, a2⟩ := List.getElem?_eq_some_iff.1 hy
  obtain ⟨b1, b2⟩ := List.getElem?_eq_some_iff.1 hu
  rcases Nat.lt_or_gt_of_ne hj with h1 | h1
  · have := List.pairwise_iff_getElem.1 h j k b1 a1 h1
    rwa [a2, b2] at this
  · have := List.pairwise_iff_getElem.1 h k j a1 b1 h1
    rw [a2, b2] at this
    rcases this with e | e
    · rw [e]
      cases u.ob <;> simp
    · exact .inr (fun e2 => e e2.symm)
set_option maxRecDepth 100000 in
set_option maxHeartbeats 25600000 in
theorem done_any {A : Option Addr} {n c : Nat} {l : List Sx} {f i : Int} {x : Mx} {w : World} (h : ListAt w A n c l) (hm : MAt w x) (hn : n ≤ 100000) (hb : BI (l.map Sx.p)) (hi : i ≤ 1152921504606846976) :
    Calls Try.prog 9 #[.slice A n c, .int .i64 f, .int .i64 i, mxv x] w (GaveD w (doneP (l.map Sx.p) f i x.p)) := by
  obtain ⟨r, hr⟩ : ∃ r, r = doneP (l.map Sx.p) f i x.p := ⟨_, rfl⟩
  rw [← hr]
  have HR := Lib.hid hr
  have H := Lib.hid h
  have HBI := Lib.hid hb
  have L1 : Hid (Below w.heap.size w (w.alloc (.cells #[.int .i64 x.k, .int .i64 x.f, .int .i64 x.t, .int .i64 x.i, .slice x.A x.n x.c, .slice x.B x.m x.d] 33))) := ((Below.refl _ w).alloc (by first | exact Nat.le_refl _ | (simp; try omega)) _)
  have M1 : Hid (Cells (w.alloc (.cells #[.int .i64 x.k, .int .i64 x.f, .int .i64 x.t, .int .i64 x.i, .slice x.A x.n x.c, .slice x.B x.m x.d] 33)) (w.heap.size) 33 #[.int .i64 x.k, .int .i64 x.f, .int .i64 x.t, .int .i64 x.i, .slice x.A x.n x.c, .slice x.B x.m x.d]) := by
    have := Cells.new w #[.int .i64 x.k, .int .i64 x.f, .int .i64 x.t, .int .i64 x.i, .slice x.A x.n x.c, .slice x.B x.m x.d] 33
    (try simp only [World.size_alloc] at this)
    exact this
  have SZ : Hid ((w.alloc (.cells #[.int .i64 x.k, .int .i64 x.f, .int .i64 x.t, .int .i64 x.i, .slice x.A x.n x.c, .slice x.B x.m x.d] 33)).heap.size = w.heap.size + 1) := by show _ = _; simp
  have HC := Lib.hid (fun W (hW : Below w.heap.size w W) => check_any (h.below hW))
  have HCM := Lib.hid (fun W (hW : Below w.heap.size w W) => clonedMsg_any (hm.below hW))
  unfold errP at HC
  unfold mxv at HCM ⊢
  clear h hr hm hb SZ
  have NONE : Hid (∀ e w', r = ([], e) → Below w.heap.size w w' → GaveD w r (.returned (.tuple #[.slice none 0 0, .int .i64 e])) w') := fun e w' he hb => ⟨none, 0, 0, [], by rw [he], ListAt.nil _, by rw [he]; rfl, hb⟩
  rcases e : okL (l.map Sx.p)
  · have HE : Hid (r = ([], 1)) := by
      show r = _
      rw [HR.out]
      unfold doneP
      rw [e]; rfl
    rw [e] at HC
    go_enter Try.func9, Try.ntmps9
    go_upto_region 1 with fail
    generalize (w.alloc (.cells #[.int .i64 x.k, .int .i64 x.f, .int .i64 x.t, .int .i64 x.i, .slice x.A x.n x.c, .slice x.B x.m x.d] 33)) = w1 at *
    go_wp2_with (go_at_call 12; refine (HC.out _ L1.out).mono ?_; rintro e w2 ⟨rfl, hb⟩; have L2 := Lib.hid (L1.out.trans (hb.mono L1.out.size)); clear hb)
    go_ret2
    exact NONE.out _ _ HE.out L2.out
  · rw [e] at HC
    rcases e1 : decide (f < 0)
    · rcases e2 : decide (i < 0)
      · have HI0 : Hid (0 ≤ i) := by show _ ≤ _; have := of_decide_eq_false e2; omega
        have HI1 := Lib.hid hi
        have HRE : Hid (r = bif (askP (l.map Sx.p) f i).2 == 2 then ([], 61) else bif (askP (l.map Sx.p) f i).2 == 1 then ([], 60) else (putP (l.map Sx.p) f ⟨i, x.p⟩, 0)) := by
          show r = _
          rw [HR.out]
          unfold doneP
          rw [e, e1, e2]; rfl
        have HASK : Hid (∀ v, (askP (l.map Sx.p) f i).2 = v → ∀ W, Below w.heap.size w W → Calls Try.prog 8 #[.slice A n c, .int .i64 f, .int .i64 i] W fun e w' => ∃ y : Mx, e = .returned (.tuple #[.agg #[.int .i64 y.k, .int .i64 y.f, .int .i64 y.t, .int .i64 y.i, .slice y.A y.n y.c, .slice y.B y.m y.d], .int .i64 v]) ∧ Below W.heap.size W w') := fun v hv W hW => (ask_any (f := f) (i := i) (H.out.below hW)).mono (by
          rintro e w' ⟨y, rfl, -, -, hb⟩
          exact ⟨y, by rw [hv]; rfl, hb⟩)
        rcases ask_2 (l.map Sx.p) e f i with ea | ea | ea
        · -- New
          rw [ea] at HRE
          have HE : Hid (r = (putP (l.map Sx.p) f ⟨i, x.p⟩, 0)) := HRE.out
          have HA := Lib.hid (HASK.out _ ea)
          have hr2 : (l.map Sx.f).Pairwise (· < ·) := by
            have := ((okL_iff _).1 e).2.1
            rwa [List.map_map] at this
          have em : (l.map Sx.p).map Sp.f = l.map Sx.f := by rw [List.map_map]; rfl
          have HD0 := Lib.hid ((okL_iff _).1 e).2.2
          have HX8 : Hid (∀ u ∈ l, u.n ≤ 8) := fun u hu => by
            have h1 := (HD0.out u.p (List.mem_map.2 ⟨u, hu, rfl⟩)).2.1
            have h2 := (H.out.at_ u hu).row.len
            unfold Sx.p at h1
            rw [List.length_map] at h1
            omega
          have HCL := Lib.hid (fun W (hW : Below w.heap.size w W) => cloned_any (H.out.below hW) (by omega) (fun u hu => by have := HX8.out u hu; omega))
          have HF := Lib.hid (fun W (hW : Below w.heap.size w W) => findSeen_any (v := f) (H.out.below hW) hr2)
          have HKL : Hid (atV (l.map Sx.f) f ≤ n) := by show _ ≤ _; have := atV_le (l.map Sx.f) f; have := H.out.row.len; rw [List.length_map] at *; omega
          have HK : Hid (atV ((l.map Sx.p).map Sp.f) f = atV (l.map Sx.f) f) := by show _ = _; rw [em]
          have HLN := Lib.hid H.out.row.len
          clear HASK HR HRE NONE ea
          rcases ek : hasV (l.map Sx.f) f
          · -- no one was known
            have HOUT : Hid (outP (l.map Sx.p) f = insP (l.map Sx.p) (atV (l.map Sx.f) f) ⟨f, 0, []⟩) := by
              show outP _ _ = _
              unfold outP
              rw [em, ek]; rfl
            rw [ek] at HF
            clear ek em hr2
            generalize atV (l.map Sx.f) f = k at *
            go_enter Try.func9, Try.ntmps9
            go_upto_region 1 with fail
            generalize (w.alloc (.cells #[.int .i64 x.k, .int .i64 x.f, .int .i64 x.t, .int .i64 x.i, .slice x.A x.n x.c, .slice x.B x.m x.d] 33)) = w1 at *
            go_upto_region 3 with (go_at_call 12; refine (HC.out _ L1.out).mono ?_; rintro e w2 ⟨rfl, hb⟩; have L2 := Lib.hid (L1.out.trans (hb.mono L1.out.size)); have M2 := Lib.hid (Cells.below M1.out hb); clear hb)
            go_upto_region 4 with (go_at_call 8; refine (HA.out _ L2.out).mono ?_; rintro e w3 ⟨y0, rfl, hb⟩; have L3 := Lib.hid (L2.out.trans (hb.mono L2.out.size)); have M3 := Lib.hid (Cells.below M2.out hb); clear hb)
            have bb : Below w3.heap.size w3 (w3.alloc (.cells #[.int .i64 y0.k, .int .i64 y0.f, .int .i64 y0.t, .int .i64 y0.i, .slice y0.A y0.n y0.c, .slice y0.B y0.m y0.d] 33)) := (Below.refl _ w3).alloc (Nat.le_refl _) _
            have L4 := Lib.hid (L3.out.trans (bb.mono L3.out.size))
            have M4 := Lib.hid (Cells.below M3.out bb)
            clear bb L1 L2 L3 M1 M2 M3 HA HC
            generalize w3.alloc (.cells #[.int .i64 y0.k, .int .i64 y0.f, .int .i64 y0.t, .int .i64 y0.i, .slice y0.A y0.n y0.c, .slice y0.B y0.m y0.d] 33) = w4 at *
            generalize w3.heap.size = pa at *
            clear w3 w2 w1
            go_upto_region 9 with fail
            go_upto_region 10 with (go_at_call 19; refine (HF.out _ L4.out).mono ?_; rintro e w5 ⟨rfl, hb⟩; have L5 := Lib.hid (L4.out.trans (hb.mono L4.out.size)); have M5 := Lib.hid (Cells.below M4.out hb); clear hb L4 M4 HF)
            go_upto_region 11 with (go_at_call 20; refine (HCL.out _ L5.out).mono ?_; rintro e w6 ⟨B, d, lc, rfl, hO, hlc, hb⟩; have L6 := Lib.hid (L5.out.trans (hb.mono L5.out.size)); have M6 := Lib.hid (Cells.below M5.out hb); have O6 := Lib.hid (hO.own.mono L5.out.size); have E6 : Hid (∀ u ∈ lc, OwnX w.heap.size w6 u) := (fun u hu => (hO.at_ u hu).mono L5.out.size); have PW := Lib.hid hO.pw; have HLC := Lib.hid hlc; clear hb L5 M5 HCL hO hlc)
            have HLL : Hid (lc.length = n) := O6.out.2
            have H8 : Hid (∀ u ∈ lc, u.n ≤ 8) := fun u hu => by
              have h1 := (HD0.out u.p (by rw [← HLC.out]; exact List.mem_map.2 ⟨u, hu, rfl⟩)).2.1
              have h2 : u.l.length = u.n := (E6.out u hu).own.2
              unfold Sx.p at h1
              rw [List.length_map] at h1
              omega
            clear w5 w4
            go_upto_region 12 with fail
            have b7 : Below w6.heap.size w6 (w6.alloc (.cells #[.int .i64 f, .int .i64 0, .slice none 0 0] 51)) := (Below.refl _ w6).alloc (Nat.le_refl _) _
            have L7 := Lib.hid (L6.out.trans (b7.mono L6.out.size))
            have M7 := Lib.hid (Cells.below M6.out b7)
            have O7 := Lib.hid (O6.out.below b7)
            have E7 := Lib.hid (fun u hu => (E6.out u hu).below b7)
            have N7 : Hid (SBox (w6.alloc (.cells #[.int .i64 f, .int .i64 0, .slice none 0 0] 51)) w6.heap.size ⟨f, 0, none, 0, 0, []⟩) := Cells.new _ _ _
            have QN : Hid (∀ k, (Value.slice B n d).ownBlock = some k → w6.heap.size ≠ k) := fun k hk => by
              have := (OwnS.Owns.lt O6.out k hk).2
              omega
            have HI := Lib.hid (insertS O7.out HKL.out N7.out QN.out L7.out.size (by omega))
            clear b7
            go_upto_region 13 with (go_at_call 21; refine HI.out.mono ?_; rintro e w8 ⟨⟨B2, d2, rfl, hO, -⟩, hg⟩; have cg := Chg.own O7.out hg; have L8 := Lib.hid (L7.out.trans (cg.below L7.out.size (fun q hq => (OwnS.Owns.lt O7.out q hq).1))); have M8 := Lib.hid (cg.cells M7.out (by decide)); have O8 := Lib.hid hO; have E8 : Hid (∀ u ∈ insP lc k ⟨f, 0, none, 0, 0, []⟩, OwnX w.heap.size w8 u) := (fun u hu => by
                rcases ins_mem hu with rfl | hu
                · exact OwnD.nil _ _
                · exact OwnD.seen (E7.out u hu) cg); clear cg hO hg)
            obtain ⟨lo, hlo⟩ : ∃ lo, lo = insP lc k ⟨f, 0, none, 0, 0, []⟩ := ⟨_, rfl⟩
            have HLO : Hid (lo.map Sx.p = outP (l.map Sx.p) f) := by
              show _ = _
              rw [hlo, ins_map, HOUT.out, HLC.out]
              rfl
            obtain ⟨y, hy⟩ : ∃ y : Sx, y = ⟨f, 0, none, 0, 0, []⟩ := ⟨_, rfl⟩
            have HG : Hid (lo[k]? = some y) := by
              show _ = _
              rw [hlo, hy]
              exact (ins_set (l := lc) k (by rw [HLL.out]; exact HKL.out) _ y).1
            have HOK : Hid (okD y.p) := by rw [hy]; exact okD_new f
            have HYI : Hid (∀ d ∈ y.l, d.id ≤ 1152921504606846976) := by rw [hy]; exact fun d hd => by cases hd
            have HD : Hid (∀ j u, j ≠ k → lo[j]? = some u → u.ob = none ∨ u.ob ≠ y.ob) := fun j u _ _ => by
              rw [hy]
              unfold Sx.ob
              cases (Value.slice u.A u.n u.c).ownBlock <;> simp [Value.ownBlock]
            have HN8 : Hid (∀ u ∈ lo, u.n ≤ 8) := fun u hu => by
              rw [hlo] at hu
              rcases ins_mem hu with rfl | hu
              · exact Nat.zero_le _
              · exact H8.out u hu
            obtain ⟨nn, hnn⟩ : ∃ nn, nn = n + 1 := ⟨_, rfl⟩
            have HNN : Hid (nn ≤ 1000000) := by show _ ≤ _; omega
            rw [← hlo, ← hnn] at O8
            rw [← hlo] at E8
            rw [← hnn]
            clear hlo hy hnn L6 L7 M6 M7 O6 O7 E6 E7 N7 QN HI HOUT HD0 HX8 PW HLC H8 HLL
            generalize w6.heap.size = pb at *
            clear w6
            obtain ⟨g, cur, hB, hbg, -⟩ := O8.out.place (by have := (List.getElem?_eq_some_iff.1 HG.out).1; have := O8.out.2; omega)
            have HGG := Lib.hid hbg
            subst hB
            have hk0 : (0 : Int) ≤ (k : Int) := by omega
            have hkn : (k : Int) < (nn : Int) := by have := (List.getElem?_eq_some_iff.1 HG.out).1; have := O8.out.2; omega
            clear hbg cur
            have L9 := Lib.hid L8.out.drew
            have M9 := Lib.hid (Cells.drew M8.out)
            have O9 := Lib.hid O8.out.drew
            have E9 := Lib.hid (fun z hz => (E8.out z hz).below (Below.refl _ w8).drew)
            refine RegK.start (S := fun W => (W.cell? ⟨g, k * 3, none⟩ = some (.int .i64 y.f) ∧ W.cell? ⟨g, k * 3 + 1, none⟩ = some (.int .i64 y.b) ∧ W.cell? ⟨g, k * 3 + 2, none⟩ = some (.slice y.A y.n y.c)) ∧ (W.cell? ⟨w.heap.size, 0, none⟩ = some (.int .i64 x.k) ∧ W.cell? ⟨w.heap.size, 1, none⟩ = some (.int .i64 x.f) ∧ W.cell? ⟨w.heap.size, 2, none⟩ = some (.int .i64 x.t) ∧ W.cell? ⟨w.heap.size, 3, none⟩ = some (.int .i64 x.i) ∧ W.cell? ⟨w.heap.size, 4, none⟩ = some (.slice x.A x.n x.c) ∧ W.cell? ⟨w.heap.size, 5, none⟩ = some (.slice x.B x.m x.d))) 12 (by kernel_rfl) (⟨three_own O9.out HG.out, MBox.cells M9.out⟩) (fun hHeld => ?_)
            generalize w8.drew = w9 at *
            clear L8 M8 O8 E8
            (first | (refine RegK.take 0 [12] (v := ?_) rfl (by kernel_rfl) (by kernel_rfl) (by kernel_rfl) (by kernel_rfl) rfl (by kernel_rfl) (fun _ _ _ h => h) (Or.inl ⟨by rfl, ?_⟩) (by assumption) ?_; rotate_left; (focus ((intro W hSW; (try dsimp only at hSW); (try go_split_ands); go_simp; (try (with_reducible rfl)); done)))) | (refine RegK.take 0 [12] (v := undef) rfl (by kernel_rfl) (by kernel_rfl) (by kernel_rfl) (by kernel_rfl) rfl (by kernel_rfl) (fun _ _ _ h => h) (Or.inr ⟨by rfl, rfl⟩) (by assumption) ?_))
            (try simp only [Act.put, List.setIfInBounds_toArray, List.set_cons_zero, List.set_cons_succ])
            (first | (refine RegK.take 1 [12] (v := ?_) rfl (by kernel_rfl) (by kernel_rfl) (by kernel_rfl) (by kernel_rfl) rfl (by kernel_rfl) (fun _ _ _ h => h) (Or.inl ⟨by rfl, ?_⟩) (by assumption) ?_; rotate_left; (focus ((intro W hSW; (try dsimp only at hSW); (try go_split_ands); go_simp; (try (with_reducible rfl)); done)))) | (refine RegK.take 1 [12] (v := undef) rfl (by kernel_rfl) (by kernel_rfl) (by kernel_rfl) (by kernel_rfl) rfl (by kernel_rfl) (fun _ _ _ h => h) (Or.inr ⟨by rfl, rfl⟩) (by assumption) ?_))
            (try simp only [Act.put, List.setIfInBounds_toArray, List.set_cons_zero, List.set_cons_succ])
            (first | (refine RegK.take 2 [12] (v := ?_) rfl (by kernel_rfl) (by kernel_rfl) (by kernel_rfl) (by kernel_rfl) rfl (by kernel_rfl) (fun _ _ _ h => h) (Or.inl ⟨by rfl, ?_⟩) (by assumption) ?_; rotate_left; (focus ((intro W hSW; (try dsimp only at hSW); (try go_split_ands); go_simp; (try (with_reducible rfl)); done)))) | (refine RegK.take 2 [12] (v := undef) rfl (by kernel_rfl) (by kernel_rfl) (by kernel_rfl) (by kernel_rfl) rfl (by kernel_rfl) (fun _ _ _ h => h) (Or.inr ⟨by rfl, rfl⟩) (by assumption) ?_))
            (try simp only [Act.put, List.setIfInBounds_toArray, List.set_cons_zero, List.set_cons_succ])
            (first | (refine RegK.take 3 [12] (v := ?_) rfl (by kernel_rfl) (by kernel_rfl) (by kernel_rfl) (by kernel_rfl) rfl (by kernel_rfl) (fun _ _ _ h => h) (Or.inl ⟨by rfl, ?_⟩) (by assumption) ?_; rotate_left; (focus ((intro W hSW; (try dsimp only at hSW); (try go_split_ands); go_simp; (try (with_reducible rfl)); done)))) | (refine RegK.take 3 [12] (v := undef) rfl (by kernel_rfl) (by kernel_rfl) (by kernel_rfl) (by kernel_rfl) rfl (by kernel_rfl) (fun _ _ _ h => h) (Or.inr ⟨by rfl, rfl⟩) (by assumption) ?_))
            (try simp only [Act.put, List.setIfInBounds_toArray, List.set_cons_zero, List.set_cons_succ])
            (first | (refine RegK.take 4 [12] (v := ?_) rfl (by kernel_rfl) (by kernel_rfl) (by kernel_rfl) (by kernel_rfl) rfl (by kernel_rfl) (fun _ _ _ h => h) (Or.inl ⟨by rfl, ?_⟩) (by assumption) ?_; rotate_left; (focus ((intro W hSW; (try dsimp only at hSW); (try go_split_ands); go_simp; (try (with_reducible rfl)); done)))) | (refine RegK.take 4 [12] (v := undef) rfl (by kernel_rfl) (by kernel_rfl) (by kernel_rfl) (by kernel_rfl) rfl (by kernel_rfl) (fun _ _ _ h => h) (Or.inr ⟨by rfl, rfl⟩) (by assumption) ?_))
            (try simp only [Act.put, List.setIfInBounds_toArray, List.set_cons_zero, List.set_cons_succ])
            (first | (refine RegK.take 5 [12] (v := ?_) rfl (by kernel_rfl) (by kernel_rfl) (by kernel_rfl) (by kernel_rfl) rfl (by kernel_rfl) (fun _ _ _ h => h) (Or.inl ⟨by rfl, ?_⟩) (by assumption) ?_; rotate_left; (focus ((intro W hSW; (try dsimp only at hSW); (try go_split_ands); go_simp; (try (with_reducible rfl)); done)))) | (refine RegK.take 5 [12] (v := undef) rfl (by kernel_rfl) (by kernel_rfl) (by kernel_rfl) (by kernel_rfl) rfl (by kernel_rfl) (fun _ _ _ h => h) (Or.inr ⟨by rfl, rfl⟩) (by assumption) ?_))
            (try simp only [Act.put, List.setIfInBounds_toArray, List.set_cons_zero, List.set_cons_succ])
            (first | (refine RegK.take 6 [12] (v := ?_) rfl (by kernel_rfl) (by kernel_rfl) (by kernel_rfl) (by kernel_rfl) rfl (by kernel_rfl) (fun _ _ _ h => h) (Or.inl ⟨by rfl, ?_⟩) (by assumption) ?_; rotate_left; (focus ((intro W hSW; (try dsimp only at hSW); (try go_split_ands); go_simp; (try (with_reducible rfl)); done)))) | (refine RegK.take 6 [12] (v := undef) rfl (by kernel_rfl) (by kernel_rfl) (by kernel_rfl) (by kernel_rfl) rfl (by kernel_rfl) (fun _ _ _ h => h) (Or.inr ⟨by rfl, rfl⟩) (by assumption) ?_))
            (try simp only [Act.put, List.setIfInBounds_toArray, List.set_cons_zero, List.set_cons_succ])
            (first | (refine RegK.take 7 [12] (v := ?_) rfl (by kernel_rfl) (by kernel_rfl) (by kernel_rfl) (by kernel_rfl) rfl (by kernel_rfl) (fun _ _ _ h => h) (Or.inl ⟨by rfl, ?_⟩) (by assumption) ?_; rotate_left; (focus ((intro W hSW; (try dsimp only at hSW); (try go_split_ands); go_simp; (try (with_reducible rfl)); done)))) | (refine RegK.take 7 [12] (v := undef) rfl (by kernel_rfl) (by kernel_rfl) (by kernel_rfl) (by kernel_rfl) rfl (by kernel_rfl) (fun _ _ _ h => h) (Or.inr ⟨by rfl, rfl⟩) (by assumption) ?_))
            (try simp only [Act.put, List.setIfInBounds_toArray, List.set_cons_zero, List.set_cons_succ])
            refine RegK.step 8 rfl (by kernel_rfl) (by rfl) (fun K hK => ?_)
            go_simp
            refine (HCM.out _ L9.out).mono ?_
            rintro e w10 ⟨v, rfl, hv, hO, hb⟩
            have L10 := Lib.hid (L9.out.trans (hb.mono L9.out.size))
            have M10 := Lib.hid (Cells.below M9.out hb)
            have O10 := Lib.hid (O9.out.below hb)
            have E10 := Lib.hid (fun z hz => (E9.out z hz).below hb)
            have V10 := Lib.hid (hO.mono L9.out.size)
            have HV := Lib.hid hv
            clear hO hb hv L9 M9 O9 E9 HCM hHeld
            have hHeld : (fun W => (W.cell? ⟨g, k * 3, none⟩ = some (.int .i64 y.f) ∧ W.cell? ⟨g, k * 3 + 1, none⟩ = some (.int .i64 y.b) ∧ W.cell? ⟨g, k * 3 + 2, none⟩ = some (.slice y.A y.n y.c)) ∧ (W.cell? ⟨w.heap.size, 0, none⟩ = some (.int .i64 x.k) ∧ W.cell? ⟨w.heap.size, 1, none⟩ = some (.int .i64 x.f) ∧ W.cell? ⟨w.heap.size, 2, none⟩ = some (.int .i64 x.t) ∧ W.cell? ⟨w.heap.size, 3, none⟩ = some (.int .i64 x.i) ∧ W.cell? ⟨w.heap.size, 4, none⟩ = some (.slice x.A x.n x.c) ∧ W.cell? ⟨w.heap.size, 5, none⟩ = some (.slice x.B x.m x.d))) w10 := ⟨three_own O10.out HG.out, MBox.cells M10.out⟩
            refine hK.out _ _ (fun _ => hHeld) ?_
            clear hK K
            (try simp only [Act.put, List.setIfInBounds_toArray, List.set_cons_zero, List.set_cons_succ])
            unfold mxv
            (first | (refine RegK.take 9 [12] (v := ?_) rfl (by kernel_rfl) (by kernel_rfl) (by kernel_rfl) (by kernel_rfl) rfl (by kernel_rfl) (fun _ _ _ h => h) (Or.inl ⟨by rfl, ?_⟩) (by assumption) ?_; rotate_left; (focus ((intro W hSW; (try dsimp only at hSW); (try go_split_ands); go_simp; (try (with_reducible rfl)); done)))) | (refine RegK.take 9 [12] (v := undef) rfl (by kernel_rfl) (by kernel_rfl) (by kernel_rfl) (by kernel_rfl) rfl (by kernel_rfl) (fun _ _ _ h => h) (Or.inr ⟨by rfl, rfl⟩) (by assumption) ?_))
            (try simp only [Act.put, List.setIfInBounds_toArray, List.set_cons_zero, List.set_cons_succ])
            refine RegK.step 10 rfl (by kernel_rfl) (by rfl) (fun K hK => ?_)
            go_simp
            have HWI := with_any (a := ⟨i, v⟩) (E10.out y (List.mem_of_getElem? HG.out)) V10.out L10.out.size HOK.out HYI.out HI0.out HI1.out
            unfold sxv dxv at HWI
            refine HWI.mono ?_
            rintro e w11 ⟨z, rfl, hz, hO, hmv, -⟩
            have cg := Chg.ownM (E10.out y (List.mem_of_getElem? HG.out)).own hmv
            have L11 := Lib.hid (L10.out.trans (hmv.below L10.out.size (fun q hq => ((E10.out y (List.mem_of_getElem? HG.out)).own.lt q (by have h := hq; unfold Sx.ob at h; simpa using h)).1)))
            have M11 := Lib.hid (cg.cells M10.out (by decide))
            have O11 := Lib.hid (cg.owns O10.out (by decide))
            have E11 : Hid (∀ j u, j ≠ k → lo[j]? = some u → OwnX w.heap.size w11 u) := fun j u hj hu => OwnD.said (E10.out u (List.mem_of_getElem? hu)) cg (HD.out j u hj hu)
            have Z11 := Lib.hid hO
            have HZ := Lib.hid hz
            clear hO hmv hz cg L10 M10 O10 E10 V10 hHeld HWI
            have hHeld : (fun W => (W.cell? ⟨g, k * 3, none⟩ = some (.int .i64 y.f) ∧ W.cell? ⟨g, k * 3 + 1, none⟩ = some (.int .i64 y.b) ∧ W.cell? ⟨g, k * 3 + 2, none⟩ = some (.slice y.A y.n y.c)) ∧ (W.cell? ⟨w.heap.size, 0, none⟩ = some (.int .i64 x.k) ∧ W.cell? ⟨w.heap.size, 1, none⟩ = some (.int .i64 x.f) ∧ W.cell? ⟨w.heap.size, 2, none⟩ = some (.int .i64 x.t) ∧ W.cell? ⟨w.heap.size, 3, none⟩ = some (.int .i64 x.i) ∧ W.cell? ⟨w.heap.size, 4, none⟩ = some (.slice x.A x.n x.c) ∧ W.cell? ⟨w.heap.size, 5, none⟩ = some (.slice x.B x.m x.d))) w11 := ⟨three_own O11.out HG.out, MBox.cells M11.out⟩
            refine hK.out _ _ (fun _ => hHeld) ?_
            clear hK K
            (try simp only [Act.put, List.setIfInBounds_toArray, List.set_cons_zero, List.set_cons_succ])
            unfold sxv
            (first | (refine RegK.take 11 [12] (v := ?_) rfl (by kernel_rfl) (by kernel_rfl) (by kernel_rfl) (by kernel_rfl) rfl (by kernel_rfl) (fun _ _ _ h => h) (Or.inl ⟨by rfl, ?_⟩) (by assumption) ?_; rotate_left; (focus ((intro W hSW; (try dsimp only at hSW); (try go_split_ands); go_simp; (try (with_reducible rfl)); done)))) | (refine RegK.take 11 [12] (v := undef) rfl (by kernel_rfl) (by kernel_rfl) (by kernel_rfl) (by kernel_rfl) rfl (by kernel_rfl) (fun _ _ _ h => h) (Or.inr ⟨by rfl, rfl⟩) (by assumption) ?_))
            (try simp only [Act.put, List.setIfInBounds_toArray, List.set_cons_zero, List.set_cons_succ])
            obtain ⟨r0, r1, r2⟩ := three_own O11.out HG.out
            have hfz := fun i => OwnS.Owns.free O11.out (by have := (List.getElem?_eq_some_iff.1 HG.out).1; have := O11.out.2; omega) i
            refine RegK.step 12 rfl (by kernel_rfl) (by rfl) (fun K hK => ?_)
            go_simp
            have bt := mov3 w11 g k z
            have O12 := Lib.hid (put3 O11.out HG.out z)
            obtain ⟨cur, hcur, -⟩ := OwnS.Owns.block O11.out (g := g) rfl
            have cg := Chg.mov hcur bt
            have L12 := Lib.hid (L11.out.trans (bt.up L11.out.size HGG.out))
            have E12 : Hid (∀ u ∈ lo.set k z, OwnX w.heap.size (set3W w11 g k z) u) := fun u hu => by
              obtain ⟨j, hj⟩ := List.mem_iff_getElem?.1 hu
              rw [List.getElem?_set] at hj
              split at hj
              · split at hj
                · injection hj with hj; subst hj; exact OwnD.seen Z11.out cg
                · cases hj
              · rename_i h
                exact OwnD.seen (E11.out j u (fun e => h e.symm) hj) cg
            clear bt cg hcur cur r0 r1 r2 hfz L11 M11 O11 E11 Z11 hHeld
            unfold set3W at O12 L12 E12
            generalize ((w11.setCell ⟨g, k * 3, none⟩ (.int .i64 z.f)).setCell ⟨g, k * 3 + 1, none⟩ (.int .i64 z.b)).setCell ⟨g, k * 3 + 2, none⟩ (.slice z.A z.n z.c) = w12 at *
            refine hK.out _ _ (fun h => absurd rfl h) ?_
            clear hK K
            (try simp only [Act.put, List.setIfInBounds_toArray, List.set_cons_zero, List.set_cons_succ])
            refine RegK.done (by kernel_rfl) ?_ _
            go_wp2_with fail
            go_ret2
            exact gaveD_put HE.out HLO.out HG.out (by rw [HZ.out, ← HV.out]; rfl) HK.out O12.out E12.out HNN.out HN8.out HOK.out L12.out
          · have HKN0 : Hid (atV (l.map Sx.f) f < n) := by show _ < _; have := has_get ek; rw [List.length_map] at this; have := HLN.out; omega
            have HOUT : Hid (outP (l.map Sx.p) f = l.map Sx.p) := by
              show outP _ _ = _
              unfold outP
              rw [em, ek]; rfl
            rw [ek] at HF
            clear ek em hr2
            generalize atV (l.map Sx.f) f = k at *
            go_enter Try.func9, Try.ntmps9
            go_upto_region 1 with fail
            generalize (w.alloc (.cells #[.int .i64 x.k, .int .i64 x.f, .int .i64 x.t, .int .i64 x.i, .slice x.A x.n x.c, .slice x.B x.m x.d] 33)) = w1 at *
            go_upto_region 3 with (go_at_call 12; refine (HC.out _ L1.out).mono ?_; rintro e w2 ⟨rfl, hb⟩; have L2 := Lib.hid (L1.out.trans (hb.mono L1.out.size)); have M2 := Lib.hid (Cells.below M1.out hb); clear hb)
            go_upto_region 4 with (go_at_call 8; refine (HA.out _ L2.out).mono ?_; rintro e w3 ⟨y0, rfl, hb⟩; have L3 := Lib.hid (L2.out.trans (hb.mono L2.out.size)); have M3 := Lib.hid (Cells.below M2.out hb); clear hb)
            have bb : Below w3.heap.size w3 (w3.alloc (.cells #[.int .i64 y0.k, .int .i64 y0.f, .int .i64 y0.t, .int .i64 y0.i, .slice y0.A y0.n y0.c, .slice y0.B y0.m y0.d] 33)) := (Below.refl _ w3).alloc (Nat.le_refl _) _
            have L4 := Lib.hid (L3.out.trans (bb.mono L3.out.size))
            have M4 := Lib.hid (Cells.below M3.out bb)
            clear bb L1 L2 L3 M1 M2 M3 HA HC
            generalize w3.alloc (.cells #[.int .i64 y0.k, .int .i64 y0.f, .int .i64 y0.t, .int .i64 y0.i, .slice y0.A y0.n y0.c, .slice y0.B y0.m y0.d] 33) = w4 at *
            generalize w3.heap.size = pa at *
            clear w3 w2 w1
            go_upto_region 9 with fail
            go_upto_region 10 with (go_at_call 19; refine (HF.out _ L4.out).mono ?_; rintro e w5 ⟨rfl, hb⟩; have L5 := Lib.hid (L4.out.trans (hb.mono L4.out.size)); have M5 := Lib.hid (Cells.below M4.out hb); clear hb L4 M4 HF)
            go_upto_region 11 with (go_at_call 20; refine (HCL.out _ L5.out).mono ?_; rintro e w6 ⟨B, d, lc, rfl, hO, hlc, hb⟩; have L6 := Lib.hid (L5.out.trans (hb.mono L5.out.size)); have M6 := Lib.hid (Cells.below M5.out hb); have O6 := Lib.hid (hO.own.mono L5.out.size); have E6 : Hid (∀ u ∈ lc, OwnX w.heap.size w6 u) := (fun u hu => (hO.at_ u hu).mono L5.out.size); have PW := Lib.hid hO.pw; have HLC := Lib.hid hlc; clear hb L5 M5 HCL hO hlc)
            have HLL : Hid (lc.length = n) := O6.out.2
            have H8 : Hid (∀ u ∈ lc, u.n ≤ 8) := fun u hu => by
              have h1 := (HD0.out u.p (by rw [← HLC.out]; exact List.mem_map.2 ⟨u, hu, rfl⟩)).2.1
              have h2 : u.l.length = u.n := (E6.out u hu).own.2
              unfold Sx.p at h1
              rw [List.length_map] at h1
              omega
            clear w5 w4
            go_upto_region 13 with fail
            have HLO : Hid (lc.map Sx.p = outP (l.map Sx.p) f) := by
              show _ = _
              rw [HOUT.out, HLC.out]
            have HKN : k < n := HKN0.out
            obtain ⟨y, hy⟩ : ∃ y, lc[k]? = some y := ⟨_, List.getElem?_eq_getElem (by rw [HLL.out]; exact HKN)⟩
            have HG := Lib.hid hy
            have HOK : Hid (okD y.p) := HD0.out y.p (by rw [← HLC.out]; exact List.mem_map.2 ⟨y, List.mem_of_getElem? hy, rfl⟩)
            have HYI : Hid (∀ d ∈ y.l, d.id ≤ 1152921504606846976) := fun d hd => HBI.out y.p (by rw [← HLC.out]; exact List.mem_map.2 ⟨y, List.mem_of_getElem? hy, rfl⟩) d.p (by unfold Sx.p; exact List.mem_map.2 ⟨d, hd, rfl⟩)
            have HD := Lib.hid (apart_of PW.out hy)
            have HN8 := H8
            obtain ⟨nn, hnn⟩ : ∃ nn, nn = n := ⟨_, rfl⟩
            have HNN : Hid (nn ≤ 1000000) := by show _ ≤ _; omega
            rw [← hnn] at O6
            rw [← hnn]
            obtain ⟨lo, hlo⟩ : ∃ lo, lo = lc := ⟨_, rfl⟩
            subst hlo
            obtain ⟨w8, hw8⟩ : ∃ W, W = w6 := ⟨_, rfl⟩
            subst hw8
            have L8 := L6
            have M8 := M6
            have O8 := O6
            have E8 := E6
            clear hy hnn L6 M6 O6 E6 HOUT HD0 HX8 PW HLC H8 HLL
            obtain ⟨g, cur, hB, hbg, -⟩ := O8.out.place (by have := (List.getElem?_eq_some_iff.1 HG.out).1; have := O8.out.2; omega)
            have HGG := Lib.hid hbg
            subst hB
            have hk0 : (0 : Int) ≤ (k : Int) := by omega
            have hkn : (k : Int) < (nn : Int) := by have := (List.getElem?_eq_some_iff.1 HG.out).1; have := O8.out.2; omega
            clear hbg cur
            have L9 := Lib.hid L8.out.drew
            have M9 := Lib.hid (Cells.drew M8.out)
            have O9 := Lib.hid O8.out.drew
            have E9 := Lib.hid (fun z hz => (E8.out z hz).below (Below.refl _ w8).drew)
            refine RegK.start (S := fun W => (W.cell? ⟨g, k * 3, none⟩ = some (.int .i64 y.f) ∧ W.cell? ⟨g, k * 3 + 1, none⟩ = some (.int .i64 y.b) ∧ W.cell? ⟨g, k * 3 + 2, none⟩ = some (.slice y.A y.n y.c)) ∧ (W.cell? ⟨w.heap.size, 0, none⟩ = some (.int .i64 x.k) ∧ W.cell? ⟨w.heap.size, 1, none⟩ = some (.int .i64 x.f) ∧ W.cell? ⟨w.heap.size, 2, none⟩ = some (.int .i64 x.t) ∧ W.cell? ⟨w.heap.size, 3, none⟩ = some (.int .i64 x.i) ∧ W.cell? ⟨w.heap.size, 4, none⟩ = some (.slice x.A x.n x.c) ∧ W.cell? ⟨w.heap.size, 5, none⟩ = some (.slice x.B x.m x.d))) 12 (by kernel_rfl) (⟨three_own O9.out HG.out, MBox.cells M9.out⟩) (fun hHeld => ?_)
            generalize w8.drew = w9 at *
            clear L8 M8 O8 E8
            (first | (refine RegK.take 0 [12] (v := ?_) rfl (by kernel_rfl) (by kernel_rfl) (by kernel_rfl) (by kernel_rfl) rfl (by kernel_rfl) (fun _ _ _ h => h) (Or.inl ⟨by rfl, ?_⟩) (by assumption) ?_; rotate_left; (focus ((intro W hSW; (try dsimp only at hSW); (try go_split_ands); go_simp; (try (with_reducible rfl)); done)))) | (refine RegK.take 0 [12] (v := undef) rfl (by kernel_rfl) (by kernel_rfl) (by kernel_rfl) (by kernel_rfl) rfl (by kernel_rfl) (fun _ _ _ h => h) (Or.inr ⟨by rfl, rfl⟩) (by assumption) ?_))
            (try simp only [Act.put, List.setIfInBounds_toArray, List.set_cons_zero, List.set_cons_succ])
            (first | (refine RegK.take 1 [12] (v := ?_) rfl (by kernel_rfl) (by kernel_rfl) (by kernel_rfl) (by kernel_rfl) rfl (by kernel_rfl) (fun _ _ _ h => h) (Or.inl ⟨by rfl, ?_⟩) (by assumption) ?_; rotate_left; (focus ((intro W hSW; (try dsimp only at hSW); (try go_split_ands); go_simp; (try (with_reducible rfl)); done)))) | (refine RegK.take 1 [12] (v := undef) rfl (by kernel_rfl) (by kernel_rfl) (by kernel_rfl) (by kernel_rfl) rfl (by kernel_rfl) (fun _ _ _ h => h) (Or.inr ⟨by rfl, rfl⟩) (by assumption) ?_))
            (try simp only [Act.put, List.setIfInBounds_toArray, List.set_cons_zero, List.set_cons_succ])
            (first | (refine RegK.take 2 [12] (v := ?_) rfl (by kernel_rfl) (by kernel_rfl) (by kernel_rfl) (by kernel_rfl) rfl (by kernel_rfl) (fun _ _ _ h => h) (Or.inl ⟨by rfl, ?_⟩) (by assumption) ?_; rotate_left; (focus ((intro W hSW; (try dsimp only at hSW); (try go_split_ands); go_simp; (try (with_reducible rfl)); done)))) | (refine RegK.take 2 [12] (v := undef) rfl (by kernel_rfl) (by kernel_rfl) (by kernel_rfl) (by kernel_rfl) rfl (by kernel_rfl) (fun _ _ _ h => h) (Or.inr ⟨by rfl, rfl⟩) (by assumption) ?_))
            (try simp only [Act.put, List.setIfInBounds_toArray, List.set_cons_zero, List.set_cons_succ])
            (first | (refine RegK.take 3 [12] (v := ?_) rfl (by kernel_rfl) (by kernel_rfl) (by kernel_rfl) (by kernel_rfl) rfl (by kernel_rfl) (fun _ _ _ h => h) (Or.inl ⟨by rfl, ?_⟩) (by assumption) ?_; rotate_left; (focus ((intro W hSW; (try dsimp only at hSW); (try go_split_ands); go_simp; (try (with_reducible rfl)); done)))) | (refine RegK.take 3 [12] (v := undef) rfl (by kernel_rfl) (by kernel_rfl) (by kernel_rfl) (by kernel_rfl) rfl (by kernel_rfl) (fun _ _ _ h => h) (Or.inr ⟨by rfl, rfl⟩) (by assumption) ?_))
            (try simp only [Act.put, List.setIfInBounds_toArray, List.set_cons_zero, List.set_cons_succ])
            (first | (refine RegK.take 4 [12] (v := ?_) rfl (by kernel_rfl) (by kernel_rfl) (by kernel_rfl) (by kernel_rfl) rfl (by kernel_rfl) (fun _ _ _ h => h) (Or.inl ⟨by rfl, ?_⟩) (by assumption) ?_; rotate_left; (focus ((intro W hSW; (try dsimp only at hSW); (try go_split_ands); go_simp; (try (with_reducible rfl)); done)))) | (refine RegK.take 4 [12] (v := undef) rfl (by kernel_rfl) (by kernel_rfl) (by kernel_rfl) (by kernel_rfl) rfl (by kernel_rfl) (fun _ _ _ h => h) (Or.inr ⟨by rfl, rfl⟩) (by assumption) ?_))
            (try simp only [Act.put, List.setIfInBounds_toArray, List.set_cons_zero, List.set_cons_succ])
            (first | (refine RegK.take 5 [12] (v := ?_) rfl (by kernel_rfl) (by kernel_rfl) (by kernel_rfl) (by kernel_rfl) rfl (by kernel_rfl) (fun _ _ _ h => h) (Or.inl ⟨by rfl, ?_⟩) (by assumption) ?_; rotate_left; (focus ((intro W hSW; (try dsimp only at hSW); (try go_split_ands); go_simp; (try (with_reducible rfl)); done)))) | (refine RegK.take 5 [12] (v := undef) rfl (by kernel_rfl) (by kernel_rfl) (by kernel_rfl) (by kernel_rfl) rfl (by kernel_rfl) (fun _ _ _ h => h) (Or.inr ⟨by rfl, rfl⟩) (by assumption) ?_))
            (try simp only [Act.put, List.setIfInBounds_toArray, List.set_cons_zero, List.set_cons_succ])
            (first | (refine RegK.take 6 [12] (v := ?_) rfl (by kernel_rfl) (by kernel_rfl) (by kernel_rfl) (by kernel_rfl) rfl (by kernel_rfl) (fun _ _ _ h => h) (Or.inl ⟨by rfl, ?_⟩) (by assumption) ?_; rotate_left; (focus ((intro W hSW; (try dsimp only at hSW); (try go_split_ands); go_simp; (try (with_reducible rfl)); done)))) | (refine RegK.take 6 [12] (v := undef) rfl (by kernel_rfl) (by kernel_rfl) (by kernel_rfl) (by kernel_rfl) rfl (by kernel_rfl) (fun _ _ _ h => h) (Or.inr ⟨by rfl, rfl⟩) (by assumption) ?_))
            (try simp only [Act.put, List.setIfInBounds_toArray, List.set_cons_zero, List.set_cons_succ])
            (first | (refine RegK.take 7 [12] (v := ?_) rfl (by kernel_rfl) (by kernel_rfl) (by kernel_rfl) (by kernel_rfl) rfl (by kernel_rfl) (fun _ _ _ h => h) (Or.inl ⟨by rfl, ?_⟩) (by assumption) ?_; rotate_left; (focus ((intro W hSW; (try dsimp only at hSW); (try go_split_ands); go_simp; (try (with_reducible rfl)); done)))) | (refine RegK.take 7 [12] (v := undef) rfl (by kernel_rfl) (by kernel_rfl) (by kernel_rfl) (by kernel_rfl) rfl (by kernel_rfl) (fun _ _ _ h => h) (Or.inr ⟨by rfl, rfl⟩) (by assumption) ?_))
            (try simp only [Act.put, List.setIfInBounds_toArray, List.set_cons_zero, List.set_cons_succ])
            refine RegK.step 8 rfl (by kernel_rfl) (by rfl) (fun K hK => ?_)
            go_simp
            refine (HCM.out _ L9.out).mono ?_
            rintro e w10 ⟨v, rfl, hv, hO, hb⟩
            have L10 := Lib.hid (L9.out.trans (hb.mono L9.out.size))
            have M10 := Lib.hid (Cells.below M9.out hb)
            have O10 := Lib.hid (O9.out.below hb)
            have E10 := Lib.hid (fun z hz => (E9.out z hz).below hb)
            have V10 := Lib.hid (hO.mono L9.out.size)
            have HV := Lib.hid hv
            clear hO hb hv L9 M9 O9 E9 HCM hHeld
            have hHeld : (fun W => (W.cell? ⟨g, k * 3, none⟩ = some (.int .i64 y.f) ∧ W.cell? ⟨g, k * 3 + 1, none⟩ = some (.int .i64 y.b) ∧ W.cell? ⟨g, k * 3 + 2, none⟩ = some (.slice y.A y.n y.c)) ∧ (W.cell? ⟨w.heap.size, 0, none⟩ = some (.int .i64 x.k) ∧ W.cell? ⟨w.heap.size, 1, none⟩ = some (.int .i64 x.f) ∧ W.cell? ⟨w.heap.size, 2, none⟩ = some (.int .i64 x.t) ∧ W.cell? ⟨w.heap.size, 3, none⟩ = some (.int .i64 x.i) ∧ W.cell? ⟨w.heap.size, 4, none⟩ = some (.slice x.A x.n x.c) ∧ W.cell? ⟨w.heap.size, 5, none⟩ = some (.slice x.B x.m x.d))) w10 := ⟨three_own O10.out HG.out, MBox.cells M10.out⟩
            refine hK.out _ _ (fun _ => hHeld) ?_
            clear hK K
            (try simp only [Act.put, List.setIfInBounds_toArray, List.set_cons_zero, List.set_cons_succ])
            unfold mxv
            (first | (refine RegK.take 9 [12] (v := ?_) rfl (by kernel_rfl) (by kernel_rfl) (by kernel_rfl) (by kernel_rfl) rfl (by kernel_rfl) (fun _ _ _ h => h) (Or.inl ⟨by rfl, ?_⟩) (by assumption) ?_; rotate_left; (focus ((intro W hSW; (try dsimp only at hSW); (try go_split_ands); go_simp; (try (with_reducible rfl)); done)))) | (refine RegK.take 9 [12] (v := undef) rfl (by kernel_rfl) (by kernel_rfl) (by kernel_rfl) (by kernel_rfl) rfl (by kernel_rfl) (fun _ _ _ h => h) (Or.inr ⟨by rfl, rfl⟩) (by assumption) ?_))
            (try simp only [Act.put, List.setIfInBounds_toArray, List.set_cons_zero, List.set_cons_succ])
            refine RegK.step 10 rfl (by kernel_rfl) (by rfl) (fun K hK => ?_)
            go_simp
            have HWI := with_any (a := ⟨i, v⟩) (E10.out y (List.mem_of_getElem? HG.out)) V10.out L10.out.size HOK.out HYI.out HI0.out HI1.out
            unfold sxv dxv at HWI
            refine HWI.mono ?_
            rintro e w11 ⟨z, rfl, hz, hO, hmv, -⟩
            have cg := Chg.ownM (E10.out y (List.mem_of_getElem? HG.out)).own hmv
            have L11 := Lib.hid (L10.out.trans (hmv.below L10.out.size (fun q hq => ((E10.out y (List.mem_of_getElem? HG.out)).own.lt q (by have h := hq; unfold Sx.ob at h; simpa using h)).1)))
            have M11 := Lib.hid (cg.cells M10.out (by decide))
            have O11 := Lib.hid (cg.owns O10.out (by decide))
            have E11 : Hid (∀ j u, j ≠ k → lo[j]? = some u → OwnX w.heap.size w11 u) := fun j u hj hu => OwnD.said (E10.out u (List.mem_of_getElem? hu)) cg (HD.out j u hj hu)
            have Z11 := Lib.hid hO
            have HZ := Lib.hid hz
            clear hO hmv hz cg L10 M10 O10 E10 V10 hHeld HWI
            have hHeld : (fun W => (W.cell? ⟨g, k * 3, none⟩ = some (.int .i64 y.f) ∧ W.cell? ⟨g, k * 3 + 1, none⟩ = some (.int .i64 y.b) ∧ W.cell? ⟨g, k * 3 + 2, none⟩ = some (.slice y.A y.n y.c)) ∧ (W.cell? ⟨w.heap.size, 0, none⟩ = some (.int .i64 x.k) ∧ W.cell? ⟨w.heap.size, 1, none⟩ = some (.int .i64 x.f) ∧ W.cell? ⟨w.heap.size, 2, none⟩ = some (.int .i64 x.t) ∧ W.cell? ⟨w.heap.size, 3, none⟩ = some (.int .i64 x.i) ∧ W.cell? ⟨w.heap.size, 4, none⟩ = some (.slice x.A x.n x.c) ∧ W.cell? ⟨w.heap.size, 5, none⟩ = some (.slice x.B x.m x.d))) w11 := ⟨three_own O11.out HG.out, MBox.cells M11.out⟩
            refine hK.out _ _ (fun _ => hHeld) ?_
            clear hK K
            (try simp only [Act.put, List.setIfInBounds_toArray, List.set_cons_zero, List.set_cons_succ])
            unfold sxv
            (first | (refine RegK.take 11 [12] (v := ?_) rfl (by kernel_rfl) (by kernel_rfl) (by kernel_rfl) (by kernel_rfl) rfl (by kernel_rfl) (fun _ _ _ h => h) (Or.inl ⟨by rfl, ?_⟩) (by assumption) ?_; rotate_left; (focus ((intro W hSW; (try dsimp only at hSW); (try go_split_ands); go_simp; (try (with_reducible rfl)); done)))) | (refine RegK.take 11 [12] (v := undef) rfl (by kernel_rfl) (by kernel_rfl) (by kernel_rfl) (by kernel_rfl) rfl (by kernel_rfl) (fun _ _ _ h => h) (Or.inr ⟨by rfl, rfl⟩) (by assumption) ?_))
            (try simp only [Act.put, List.setIfInBounds_toArray, List.set_cons_zero, List.set_cons_succ])
            obtain ⟨r0, r1, r2⟩ := three_own O11.out HG.out
            have hfz := fun i => OwnS.Owns.free O11.out (by have := (List.getElem?_eq_some_iff.1 HG.out).1; have := O11.out.2; omega) i
            refine RegK.step 12 rfl (by kernel_rfl) (by rfl) (fun K hK => ?_)
            go_simp
            have bt := mov3 w11 g k z
            have O12 := Lib.hid (put3 O11.out HG.out z)
            obtain ⟨cur, hcur, -⟩ := OwnS.Owns.block O11.out (g := g) rfl
            have cg := Chg.mov hcur bt
            have L12 := Lib.hid (L11.out.trans (bt.up L11.out.size HGG.out))
            have E12 : Hid (∀ u ∈ lo.set k z, OwnX w.heap.size (set3W w11 g k z) u) := fun u hu => by
              obtain ⟨j, hj⟩ := List.mem_iff_getElem?.1 hu
              rw [List.getElem?_set] at hj
              split at hj
              · split at hj
                · injection hj with hj; subst hj; exact OwnD.seen Z11.out cg
                · cases hj
              · rename_i h
                exact OwnD.seen (E11.out j u (fun e => h e.symm) hj) cg
            clear bt cg hcur cur r0 r1 r2 hfz L11 M11 O11 E11 Z11 hHeld
            unfold set3W at O12 L12 E12
            generalize ((w11.setCell ⟨g, k * 3, none⟩ (.int .i64 z.f)).setCell ⟨g, k * 3 + 1, none⟩ (.int .i64 z.b)).setCell ⟨g, k * 3 + 2, none⟩ (.slice z.A z.n z.c) = w12 at *
            refine hK.out _ _ (fun h => absurd rfl h) ?_
            clear hK K
            (try simp only [Act.put, List.setIfInBounds_toArray, List.set_cons_zero, List.set_cons_succ])
            refine RegK.done (by kernel_rfl) ?_ _
            go_wp2_with fail
            go_ret2
            exact gaveD_put HE.out HLO.out HG.out (by rw [HZ.out, ← HV.out]; rfl) HK.out O12.out E12.out HNN.out HN8.out HOK.out L12.out
        · rw [ea] at HRE
          have HE : Hid (r = ([], 60)) := HRE.out
          have HA := Lib.hid (HASK.out _ ea)
          go_enter Try.func9, Try.ntmps9
          go_upto_region 1 with fail
          generalize (w.alloc (.cells #[.int .i64 x.k, .int .i64 x.f, .int .i64 x.t, .int .i64 x.i, .slice x.A x.n x.c, .slice x.B x.m x.d] 33)) = w1 at *
          go_upto_region 3 with (go_at_call 12; refine (HC.out _ L1.out).mono ?_; rintro e w2 ⟨rfl, hb⟩; have L2 := Lib.hid (L1.out.trans (hb.mono L1.out.size)); clear hb)
          go_wp2_with (go_at_call 8; refine (HA.out _ L2.out).mono ?_; rintro e w3 ⟨y, rfl, hb⟩; have L3 := Lib.hid (L2.out.trans (hb.mono L2.out.size)); clear hb)
          go_ret2
          exact NONE.out _ _ HE.out (L3.out.alloc L3.out.size _)
        · rw [ea] at HRE
          have HE : Hid (r = ([], 61)) := HRE.out
          have HA := Lib.hid (HASK.out _ ea)
          go_enter Try.func9, Try.ntmps9
          go_upto_region 1 with fail
          generalize (w.alloc (.cells #[.int .i64 x.k, .int .i64 x.f, .int .i64 x.t, .int .i64 x.i, .slice x.A x.n x.c, .slice x.B x.m x.d] 33)) = w1 at *
          go_upto_region 3 with (go_at_call 12; refine (HC.out _ L1.out).mono ?_; rintro e w2 ⟨rfl, hb⟩; have L2 := Lib.hid (L1.out.trans (hb.mono L1.out.size)); clear hb)
          go_wp2_with (go_at_call 8; refine (HA.out _ L2.out).mono ?_; rintro e w3 ⟨y, rfl, hb⟩; have L3 := Lib.hid (L2.out.trans (hb.mono L2.out.size)); clear hb)
          go_ret2
          exact NONE.out _ _ HE.out (L3.out.alloc L3.out.size _)
      · have HE : Hid (r = ([], 1)) := by
          show r = _
          rw [HR.out]
          unfold doneP
          rw [e, e1, e2]; rfl
        go_enter Try.func9, Try.ntmps9
        go_upto_region 1 with fail
        generalize (w.alloc (.cells #[.int .i64 x.k, .int .i64 x.f, .int .i64 x.t, .int .i64 x.i, .slice x.A x.n x.c, .slice x.B x.m x.d] 33)) = w1 at *
        go_wp2_with (go_at_call 12; refine (HC.out _ L1.out).mono ?_; rintro e w2 ⟨rfl, hb⟩; have L2 := Lib.hid (L1.out.trans (hb.mono L1.out.size)); clear hb)
        go_ret2
        exact NONE.out _ _ HE.out L2.out
    · have HE : Hid (r = ([], 1)) := by
        show r = _
        rw [HR.out]
        unfold doneP
        rw [e, e1]; rfl
      go_enter Try.func9, Try.ntmps9
      go_upto_region 1 with fail
      generalize (w.alloc (.cells #[.int .i64 x.k, .int .i64 x.f, .int .i64 x.t, .int .i64 x.i, .slice x.A x.n x.c, .slice x.B x.m x.d] 33)) = w1 at *
      go_wp2_with (go_at_call 12; refine (HC.out _ L1.out).mono ?_; rintro e w2 ⟨rfl, hb⟩; have L2 := Lib.hid (L1.out.trans (hb.mono L1.out.size)); clear hb)
      go_ret2
      exact NONE.out _ _ HE.out L2.out
end Ded
end Go.Proofs.Ytndcflchdecofaa
