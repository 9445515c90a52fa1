/-
  A WALK OVER zns.Do. (Written by gen_all.py.)
-/
import Derived.Test.YtbmblgjilmgkeaaZnsAll
namespace Go.Proofs.Ytbmblgjilmgkeaa
open Go.RowKit Mem Zon
namespace Zns

/-- What Do gave. -/
def Did (w : World) (d : Dx) (r : Dv × Dn) (en : Ending) (w' : World) : Prop :=
  ∃ A c xs B k, en = .returned (.tuple #[.agg #[.int .i64 d.cap, .int .i64 d.op, .int .i64 d.ac, .slice A d.n c], .agg #[.int .i64 r.2.e, .int .i64 r.2.at_, .slice B r.2.b.length k]]) ∧ DevAt w' ⟨d.cap, d.op, d.ac, A, d.n, c, xs⟩ ∧ (⟨d.cap, d.op, d.ac, xs.map Zv.z⟩ : Dv) = r.1 ∧
    Row cb w' B r.2.b.length k r.2.b ∧ Below w.heap.size w w' ∧ (∀ q o, A = some ⟨q, o, none⟩ → w.heap.size ≤ q)
theorem one_cmd {w : World} {x : Cx} {q : Nat} (hq : q = w.heap.size) : RowS cellsC 6 (w.alloc (.cells #[.int .i64 x.c.d, .int .i64 x.c.zone, .int .i64 x.c.epoch, .int .i64 x.c.off, .int .i64 x.c.n, .slice x.B x.c.b.length x.k] 36)) (some ⟨q, 0, none⟩) 1 1 [x] := by
  subst hq
  refine ⟨rfl, by omega, by omega, fun _ => ⟨_, _, rfl, by simp, fun i y hi j u hu => ?_⟩⟩
  match i, hi with
  | 0, hi =>
    simp at hi
    subst hi
    rw [cell_of_row _ w.heap.size (0 + 0 * 6 + j) _ _ (0, 0) (heap_alloc_new w _)]
    simpa [cellsC] using hu
theorem results_two {P : Program} {fn : Func} {p u : Tmp} {ty ty2 : TypeId} (h : fn.results = #[.cell p ty, .cell u ty2]) (tmps : Array Value) (w : World) (g g2 : Nat) (t t2 : TypeId) (cs cs2 : Array Value) (fr fr2 : Nat × Nat) (d d2 : TypeDesc)
    (hp : tmps.getD p undef = .pointer (some ⟨g, 0, none⟩)) (hg : w.heap[g]? = some (.cells cs t fr)) (hu : P.underlying ty = some d) (hd : (match d with | .struct _ | .array _ _ => true | _ => false) = true) (hi : (P.info? ty).map (·.size) = some cs.size)
    (hp2 : tmps.getD u undef = .pointer (some ⟨g2, 0, none⟩)) (hg2 : w.heap[g2]? = some (.cells cs2 t2 fr2)) (hu2 : P.underlying ty2 = some d2) (hd2 : (match d2 with | .struct _ | .array _ _ => true | _ => false) = true) (hi2 : (P.info? ty2).map (·.size) = some cs2.size) :
    (results fn tmps).run P w = .ok (.tuple #[.agg cs, .agg cs2]) w := by
  have hp' : tmps[p]?.getD undef = .pointer (some ⟨g, 0, none⟩) := by simpa using hp
  have hp2' : tmps[u]?.getD undef = .pointer (some ⟨g2, 0, none⟩) := by simpa using hp2
  simp [results, h, hp', hp2', asAddr, Result.andThen, run_loadVar_row w g t ty cs fr d hg hu hd hi, run_loadVar_row w g2 t2 ty2 cs2 fr2 d2 hg2 hu2 hd2 hi2]

theorem four_new (w : World) (d : Dx) (x : Cx) :
    Hid (Below w.heap.size w ((((w.alloc (.cells #[.int .i64 d.cap, .int .i64 d.op, .int .i64 d.ac, .slice d.A d.n d.c] 25)).alloc (.cells #[.int .i64 x.c.d, .int .i64 x.c.zone, .int .i64 x.c.epoch, .int .i64 x.c.off, .int .i64 x.c.n, .slice x.B x.c.b.length x.k] 36)).alloc (.cells #[.int .i64 0, .int .i64 0, .int .i64 0, .slice none 0 0] 25)).alloc (.cells #[.int .i64 0, .int .i64 0, .slice none 0 0] 38))) ∧ Hid (DBox ((((w.alloc (.cells #[.int .i64 d.cap, .int .i64 d.op, .int .i64 d.ac, .slice d.A d.n d.c] 25)).alloc (.cells #[.int .i64 x.c.d, .int .i64 x.c.zone, .int .i64 x.c.epoch, .int .i64 x.c.off, .int .i64 x.c.n, .slice x.B x.c.b.length x.k] 36)).alloc (.cells #[.int .i64 0, .int .i64 0, .int .i64 0, .slice none 0 0] 25)).alloc (.cells #[.int .i64 0, .int .i64 0, .slice none 0 0] 38)) w.heap.size d) ∧ Hid (CBox ((((w.alloc (.cells #[.int .i64 d.cap, .int .i64 d.op, .int .i64 d.ac, .slice d.A d.n d.c] 25)).alloc (.cells #[.int .i64 x.c.d, .int .i64 x.c.zone, .int .i64 x.c.epoch, .int .i64 x.c.off, .int .i64 x.c.n, .slice x.B x.c.b.length x.k] 36)).alloc (.cells #[.int .i64 0, .int .i64 0, .int .i64 0, .slice none 0 0] 25)).alloc (.cells #[.int .i64 0, .int .i64 0, .slice none 0 0] 38)) (w.heap.size + 1) x.c.d x.c.zone x.c.epoch x.c.off x.c.n x.B x.c.b.length x.k) ∧
      Hid (Cells ((((w.alloc (.cells #[.int .i64 d.cap, .int .i64 d.op, .int .i64 d.ac, .slice d.A d.n d.c] 25)).alloc (.cells #[.int .i64 x.c.d, .int .i64 x.c.zone, .int .i64 x.c.epoch, .int .i64 x.c.off, .int .i64 x.c.n, .slice x.B x.c.b.length x.k] 36)).alloc (.cells #[.int .i64 0, .int .i64 0, .int .i64 0, .slice none 0 0] 25)).alloc (.cells #[.int .i64 0, .int .i64 0, .slice none 0 0] 38)) (w.heap.size + 1 + 1) 25 #[.int .i64 0, .int .i64 0, .int .i64 0, .slice none 0 0]) ∧ Hid (EBox ((((w.alloc (.cells #[.int .i64 d.cap, .int .i64 d.op, .int .i64 d.ac, .slice d.A d.n d.c] 25)).alloc (.cells #[.int .i64 x.c.d, .int .i64 x.c.zone, .int .i64 x.c.epoch, .int .i64 x.c.off, .int .i64 x.c.n, .slice x.B x.c.b.length x.k] 36)).alloc (.cells #[.int .i64 0, .int .i64 0, .int .i64 0, .slice none 0 0] 25)).alloc (.cells #[.int .i64 0, .int .i64 0, .slice none 0 0] 38)) (w.heap.size + 1 + 1 + 1) 0 0 none 0 0) := by
  have b1 : Below w.heap.size w (w.alloc (.cells #[.int .i64 d.cap, .int .i64 d.op, .int .i64 d.ac, .slice d.A d.n d.c] 25)) := (Below.refl _ w).alloc (Nat.le_refl _) _
  have h1 : DBox (w.alloc (.cells #[.int .i64 d.cap, .int .i64 d.op, .int .i64 d.ac, .slice d.A d.n d.c] 25)) w.heap.size d := DBox.new w d
  have s1 : (w.alloc (.cells #[.int .i64 d.cap, .int .i64 d.op, .int .i64 d.ac, .slice d.A d.n d.c] 25)).heap.size = w.heap.size + 1 := by simp
  generalize w.alloc (.cells #[.int .i64 d.cap, .int .i64 d.op, .int .i64 d.ac, .slice d.A d.n d.c] 25) = w1 at *
  have b2 : Below w1.heap.size w1 (w1.alloc (.cells #[.int .i64 x.c.d, .int .i64 x.c.zone, .int .i64 x.c.epoch, .int .i64 x.c.off, .int .i64 x.c.n, .slice x.B x.c.b.length x.k] 36)) := (Below.refl _ w1).alloc (Nat.le_refl _) _
  have h2 : CBox (w1.alloc (.cells #[.int .i64 x.c.d, .int .i64 x.c.zone, .int .i64 x.c.epoch, .int .i64 x.c.off, .int .i64 x.c.n, .slice x.B x.c.b.length x.k] 36)) w1.heap.size x.c.d x.c.zone x.c.epoch x.c.off x.c.n x.B x.c.b.length x.k := Cells.new w1 _ _
  have s2 : (w1.alloc (.cells #[.int .i64 x.c.d, .int .i64 x.c.zone, .int .i64 x.c.epoch, .int .i64 x.c.off, .int .i64 x.c.n, .slice x.B x.c.b.length x.k] 36)).heap.size = w1.heap.size + 1 := by simp
  generalize w1.alloc (.cells #[.int .i64 x.c.d, .int .i64 x.c.zone, .int .i64 x.c.epoch, .int .i64 x.c.off, .int .i64 x.c.n, .slice x.B x.c.b.length x.k] 36) = w2 at *
  have b3 : Below w2.heap.size w2 (w2.alloc (.cells #[.int .i64 0, .int .i64 0, .int .i64 0, .slice none 0 0] 25)) := (Below.refl _ w2).alloc (Nat.le_refl _) _
  have h3 : Cells (w2.alloc (.cells #[.int .i64 0, .int .i64 0, .int .i64 0, .slice none 0 0] 25)) w2.heap.size 25 #[.int .i64 0, .int .i64 0, .int .i64 0, .slice none 0 0] := Cells.new w2 _ _
  have s3 : (w2.alloc (.cells #[.int .i64 0, .int .i64 0, .int .i64 0, .slice none 0 0] 25)).heap.size = w2.heap.size + 1 := by simp
  generalize w2.alloc (.cells #[.int .i64 0, .int .i64 0, .int .i64 0, .slice none 0 0] 25) = w3 at *
  have b4 : Below w3.heap.size w3 (w3.alloc (.cells #[.int .i64 0, .int .i64 0, .slice none 0 0] 38)) := (Below.refl _ w3).alloc (Nat.le_refl _) _
  have h4 : EBox (w3.alloc (.cells #[.int .i64 0, .int .i64 0, .slice none 0 0] 38)) w3.heap.size 0 0 none 0 0 := Cells.new w3 _ _
  generalize w3.alloc (.cells #[.int .i64 0, .int .i64 0, .slice none 0 0] 38) = w4 at *
  rw [s3, s2, s1] at h4
  rw [s2, s1] at h3
  rw [s1] at h2
  exact ⟨((b1.trans (b2.mono b1.size)).trans (b3.mono (by omega))).trans (b4.mono (by omega)), ((h1.below b2).below b3).below b4, CBox.below (CBox.below h2 b3) b4, Cells.below h3 b4, h4⟩
theorem stepsP_one (cap op ac : Int) (zs : List Zn) (c : Cm) : stepsP cap op ac zs [c] = ((stepP cap op ac zs c).1, [(stepP cap op ac zs c).2]) := rfl

set_option maxRecDepth 100000 in
set_option maxHeartbeats 12800000 in
theorem do_call {d : Dx} {x : Cx} {w : World} (h : DevAt w d) (hn : d.n ≤ 1000) (hc : CmdAt w x) (hok : okD d.p = true) :
    Calls Try.prog 14 #[dxv d, cxv x] w (Did w d (doP d.p x.c)) := by
  have HR := Lib.hid h
  have HC := Lib.hid hc
  have HPL := Lib.hid (show doP d.p x.c = (⟨d.cap, d.op, d.ac, (stepP d.cap d.op d.ac (d.xs.map Zv.z) x.c).1⟩, (stepP d.cap d.op d.ac (d.xs.map Zv.z) x.c).2) by unfold doP; rw [hok]; rfl)
  have HA := fun (w : World) (q : Nat) (hq : q = w.heap.size) (h : DevAt w d) (hc : CmdAt w x) => Lib.hid (all_ok (h.below ((Below.refl _ w).alloc (Nat.le_refl _) (.cells #[.int .i64 x.c.d, .int .i64 x.c.zone, .int .i64 x.c.epoch, .int .i64 x.c.off, .int .i64 x.c.n, .slice x.B x.c.b.length x.k] 36))) hn (one_cmd (x := x) hq) (by intro y hy; rw [List.mem_singleton.1 hy]; exact hc.below ((Below.refl _ w).alloc (Nat.le_refl _) _)) (by omega) hok)
  rw [HPL.out]
  clear h hc
  unfold dxv cxv Gone at *
  obtain ⟨L4, D4, C4, Z4, E4⟩ := four_new w d x
  have HST := Lib.hid (stepsP_one d.cap d.op d.ac (d.xs.map Zv.z) x.c)
  generalize stepP d.cap d.op d.ac (d.xs.map Zv.z) x.c = st at *
  go_enter Try.func14, Try.ntmps14
  go_upto_region 1 with fail
  have hr3 : Hid (w.heap.size < w.heap.size + 1 + 1 ∧ w.heap.size + 1 + 1 < w.heap.size + 1 + 1 + 1) := ⟨by omega, by omega⟩
  generalize (((w.alloc (.cells #[.int .i64 d.cap, .int .i64 d.op, .int .i64 d.ac, .slice d.A d.n d.c] 25)).alloc (.cells #[.int .i64 x.c.d, .int .i64 x.c.zone, .int .i64 x.c.epoch, .int .i64 x.c.off, .int .i64 x.c.n, .slice x.B x.c.b.length x.k] 36)).alloc (.cells #[.int .i64 0, .int .i64 0, .int .i64 0, .slice none 0 0] 25)).alloc (.cells #[.int .i64 0, .int .i64 0, .slice none 0 0] 38) = w4 at *
  generalize w.heap.size + 1 + 1 + 1 = r3 at *
  generalize w.heap.size + 1 + 1 = r2 at *
  obtain ⟨m0, m1, m2, m3⟩ := D4.out.cells
  obtain ⟨y0, y1, y2, y3, y4, y5⟩ := CBox.cells C4.out
  go_wp2_with fail
  refine (HA w4 _ rfl (HR.out.below L4.out) (HC.out.below L4.out)).out.mono ?_
  rintro e w5 ⟨A, c', xs', B, es, rfl, hdev, hpl, hrow, hdn, hmp, hb, hA, hB⟩
  have hb45 : Below w4.heap.size w4 w5 := ((Below.refl _ w4).alloc (Nat.le_refl _) _).trans (hb.mono (by simp))
  obtain ⟨e0, rfl⟩ : ∃ e0, es = [e0] := List.length_eq_one_iff.1 hrow.len
  have hx1 : List.map Cx.c [x] = [x.c] := rfl
  rw [hx1, HST.out] at hmp hpl
  have HMP : Hid (e0.p = st.2) := by show _ = _; simpa using hmp
  have b6 : Below w5.heap.size w5 (w5.alloc (.cells #[.int .i64 d.cap, .int .i64 d.op, .int .i64 d.ac, .slice A d.n c'] 25)) := (Below.refl _ w5).alloc (Nat.le_refl _) _
  have b46 := hb45.trans (b6.mono hb45.size)
  have L6 := Lib.hid (L4.out.trans (b46.mono L4.out.size))
  have Z6 := Lib.hid (Cells.below Z4.out b46)
  have E6 := Lib.hid (EBox.below E4.out b46)
  have DV6 := Lib.hid (hdev.below b6)
  have RB6 := Lib.hid ((hdn e0 (by simp)).below b6)
  have D6 : Hid (DBox (w5.alloc (.cells #[.int .i64 d.cap, .int .i64 d.op, .int .i64 d.ac, .slice A d.n c'] 25)) w5.heap.size ⟨d.cap, d.op, d.ac, A, d.n, c', xs'⟩) := DBox.new w5 ⟨d.cap, d.op, d.ac, A, d.n, c', xs'⟩
  have HPZ := Lib.hid hpl
  have HG : Hid (r2 < w5.heap.size ∧ r3 < w5.heap.size) := by
    have h1 := Cells.lt Z4.out
    have h2 := E4.out.lt
    have h3 := hb45.size
    exact ⟨by omega, by omega⟩
  have HAq : Hid (∀ q o, A = some ⟨q, o, none⟩ → r2 < q ∧ r3 < q) := by
    show ∀ _, _
    intro q o e
    have h := hA q o e
    have h1 := Cells.lt Z4.out
    have h2 := E4.out.lt
    simp only [World.size_alloc] at h
    exact ⟨by omega, by omega⟩
  obtain ⟨b, o, rfl, hbl, hec⟩ := hrow.elem (i := 0) rfl
  have HBq : Hid (r2 < b ∧ r3 < b ∧ b < w5.heap.size) := by
    have h := hB b o rfl
    have h1 := Cells.lt Z4.out
    have h2 := E4.out.lt
    simp only [World.size_alloc] at h
    exact ⟨by omega, by omega, hbl⟩
  have e6c : ∀ W : World, W.heap[b]? = w5.heap[b]? → W.cell? ⟨b, o, none⟩ = some (.int .i64 e0.p.e) ∧ W.cell? ⟨b, o + 1, none⟩ = some (.int .i64 e0.p.at_) ∧ W.cell? ⟨b, o + 2, none⟩ = some (.slice e0.B e0.p.b.length e0.k) := by
    intro W hW
    have h0 := hec W hW 0 _ rfl
    have h1 := hec W hW 1 _ rfl
    have h2 := hec W hW 2 _ rfl
    simp only [Nat.zero_mul, Nat.add_zero] at h0 h1 h2
    exact ⟨h0, h1, h2⟩
  have HBS : Hid (b < (w5.alloc (.cells #[.int .i64 d.cap, .int .i64 d.op, .int .i64 d.ac, .slice A d.n c'] 25)).heap.size) := by have := HBq.out.2.2; show _ < _; simp; omega
  have hw5 : Hid (∀ k, k < w5.heap.size → (w5.alloc (.cells #[.int .i64 d.cap, .int .i64 d.op, .int .i64 d.ac, .slice A d.n c'] 25)).heap[k]? = w5.heap[k]?) := fun k hk => b6.block k hk
  clear hmp hx1 hb45 hdev hpl hrow hdn hb hA hB hbl hec b6 b46 m0 m1 m2 m3 y0 y1 y2 y3 y4 y5 L4 D4 C4 Z4 E4 HA HST HPL HR HC
  go_upto_region 2 with fail
  have hcell : ∀ W : World, W.heap[b]? = w5.heap[b]? → DBox W w5.heap.size ⟨d.cap, d.op, d.ac, A, d.n, c', xs'⟩ → (W.cell? ⟨w5.heap.size, 0, none⟩ = some (.int .i64 d.cap) ∧ W.cell? ⟨w5.heap.size, 1, none⟩ = some (.int .i64 d.op) ∧ W.cell? ⟨w5.heap.size, 2, none⟩ = some (.int .i64 d.ac) ∧ W.cell? ⟨w5.heap.size, 3, none⟩ = some (.slice A d.n c')) ∧ (W.cell? ⟨b, o, none⟩ = some (.int .i64 e0.p.e) ∧ W.cell? ⟨b, o + 1, none⟩ = some (.int .i64 e0.p.at_) ∧ W.cell? ⟨b, o + 2, none⟩ = some (.slice e0.B e0.p.b.length e0.k)) := fun W h1 h2 => ⟨h2.cells, e6c W h1⟩
  generalize w5.alloc (.cells #[.int .i64 d.cap, .int .i64 d.op, .int .i64 d.ac, .slice A d.n c'] 25) = w6 at *
  have HBK : Hid (w6.heap[b]? = w5.heap[b]?) := hw5.out b HBq.out.2.2
  generalize hwb : w5.heap[b]? = wb at *
  clear hwb e6c hw5
  have HG6 : Hid (r2 < w5.heap.size ∧ r3 < w5.heap.size ∧ b < w5.heap.size) := ⟨HG.out.1, HG.out.2, HBq.out.2.2⟩
  generalize w5.heap.size = g6 at *
  refine wp_region_held_drew (S := fun W => (W.cell? ⟨g6, 0, none⟩ = some (.int .i64 d.cap) ∧ W.cell? ⟨g6, 1, none⟩ = some (.int .i64 d.op) ∧ W.cell? ⟨g6, 2, none⟩ = some (.int .i64 d.ac) ∧ W.cell? ⟨g6, 3, none⟩ = some (.slice A d.n c')) ∧ (W.cell? ⟨b, o, none⟩ = some (.int .i64 e0.p.e) ∧ W.cell? ⟨b, o + 1, none⟩ = some (.int .i64 e0.p.at_) ∧ W.cell? ⟨b, o + 2, none⟩ = some (.slice e0.B e0.p.b.length e0.k)))
    (by kernel_rfl) (hcell _ HBK.out D6.out) (fun hHeld => ?_)
  have Z7 : Hid (Cells w6.drew r2 25 #[.int .i64 0, .int .i64 0, .int .i64 0, .slice none 0 0]) := Z6
  have E7 : Hid (EBox w6.drew r3 0 0 none 0 0) := E6
  have DV7 : Hid (DevAt w6.drew ⟨d.cap, d.op, d.ac, A, d.n, c', xs'⟩) := DV6.out.below (Below.refl _ w6).drew
  have RB7 : Hid (DoneAt w6.drew e0) := RB6.out.below (Below.refl _ w6).drew
  have D7 : Hid (DBox w6.drew g6 ⟨d.cap, d.op, d.ac, A, d.n, c', xs'⟩) := D6
  have L7 : Hid (Below w.heap.size w w6.drew) := L6.out.drew
  have K7 : Hid (w6.drew.heap[b]? = wb) := HBK
  have HBS7 : Hid (b < w6.drew.heap.size) := HBS
  clear Z6 E6 DV6 RB6 D6 L6 HBK HBS
  generalize w6.drew = w7 at *
  (first | (refine Reg.take 0 (v := ?_) rfl (by kernel_rfl) (by kernel_rfl) (by kernel_rfl) (fun _ _ _ h => h) (Or.inl ⟨by rfl, ?_⟩) (by assumption) ?_; rotate_left; (focus ((intro W hSW); (try dsimp only at hSW); (try go_split_ands); go_simp; (try (with_reducible rfl)); done))) | (refine Reg.take 0 (v := undef) rfl (by kernel_rfl) (by kernel_rfl) (by kernel_rfl) (fun _ _ _ h => h) (Or.inr ⟨by rfl, rfl⟩) (by assumption) ?_))
  (try simp only [Act.put, List.setIfInBounds_toArray, List.set_cons_zero, List.set_cons_succ])
  (first | (refine Reg.take 1 (v := ?_) rfl (by kernel_rfl) (by kernel_rfl) (by kernel_rfl) (fun _ _ _ h => h) (Or.inl ⟨by rfl, ?_⟩) (by assumption) ?_; rotate_left; (focus ((intro W hSW); (try dsimp only at hSW); (try go_split_ands); go_simp; (try (with_reducible rfl)); done))) | (refine Reg.take 1 (v := undef) rfl (by kernel_rfl) (by kernel_rfl) (by kernel_rfl) (fun _ _ _ h => h) (Or.inr ⟨by rfl, rfl⟩) (by assumption) ?_))
  (try simp only [Act.put, List.setIfInBounds_toArray, List.set_cons_zero, List.set_cons_succ])
  (first | (refine Reg.take 2 (v := ?_) rfl (by kernel_rfl) (by kernel_rfl) (by kernel_rfl) (fun _ _ _ h => h) (Or.inl ⟨by rfl, ?_⟩) (by assumption) ?_; rotate_left; (focus ((intro W hSW); (try dsimp only at hSW); (try go_split_ands); go_simp; (try (with_reducible rfl)); done))) | (refine Reg.take 2 (v := undef) rfl (by kernel_rfl) (by kernel_rfl) (by kernel_rfl) (fun _ _ _ h => h) (Or.inr ⟨by rfl, rfl⟩) (by assumption) ?_))
  (try simp only [Act.put, List.setIfInBounds_toArray, List.set_cons_zero, List.set_cons_succ])
  (first | (refine Reg.take 3 (v := ?_) rfl (by kernel_rfl) (by kernel_rfl) (by kernel_rfl) (fun _ _ _ h => h) (Or.inl ⟨by rfl, ?_⟩) (by assumption) ?_; rotate_left; (focus ((intro W hSW); (try dsimp only at hSW); (try go_split_ands); go_simp; (try (with_reducible rfl)); done))) | (refine Reg.take 3 (v := undef) rfl (by kernel_rfl) (by kernel_rfl) (by kernel_rfl) (fun _ _ _ h => h) (Or.inr ⟨by rfl, rfl⟩) (by assumption) ?_))
  (try simp only [Act.put, List.setIfInBounds_toArray, List.set_cons_zero, List.set_cons_succ])
  refine Reg.step 4 rfl (by kernel_rfl) (by rfl) (fun K hK => ?_)
  have z0 : w7.cell? ⟨r2, 0, none⟩ = some (.int .i64 0) := Cells.cell Z7.out 0
  have z1 : w7.cell? ⟨r2, 1, none⟩ = some (.int .i64 0) := Cells.cell Z7.out 1
  have z2 : w7.cell? ⟨r2, 2, none⟩ = some (.int .i64 0) := Cells.cell Z7.out 2
  have z3 : w7.cell? ⟨r2, 3, none⟩ = some (.slice none 0 0) := Cells.cell Z7.out 3
  have f0 : w7.frozen? ⟨r2, 0, none⟩ = false := Cells.frozen Z7.out 0
  have f1 : w7.frozen? ⟨r2, 1, none⟩ = false := Cells.frozen Z7.out 1
  have f2 : w7.frozen? ⟨r2, 2, none⟩ = false := Cells.frozen Z7.out 2
  have f3 : w7.frozen? ⟨r2, 3, none⟩ = false := Cells.frozen Z7.out 3
  go_simp
  have B8 : But r2 w7 ((((w7.setCell ⟨r2, 0, none⟩ (.int .i64 d.cap)).setCell ⟨r2, 1, none⟩ (.int .i64 d.op)).setCell ⟨r2, 2, none⟩ (.int .i64 d.ac)).setCell ⟨r2, 3, none⟩ (.slice A d.n c')) := But.set4 w7 r2 (.int .i64 d.cap) (.int .i64 d.op) (.int .i64 d.ac) (.slice A d.n c')
  have hnd := dev_not 0 0 0 none 0 0
  have Z8 : Hid (Cells ((((w7.setCell ⟨r2, 0, none⟩ (.int .i64 d.cap)).setCell ⟨r2, 1, none⟩ (.int .i64 d.op)).setCell ⟨r2, 2, none⟩ (.int .i64 d.ac)).setCell ⟨r2, 3, none⟩ (.slice A d.n c')) r2 25 #[.int .i64 d.cap, .int .i64 d.op, .int .i64 d.ac, .slice A d.n c']) := Cells.set4 Z7.out _ _ _ _
  have E8 : Hid (EBox ((((w7.setCell ⟨r2, 0, none⟩ (.int .i64 d.cap)).setCell ⟨r2, 1, none⟩ (.int .i64 d.op)).setCell ⟨r2, 2, none⟩ (.int .i64 d.ac)).setCell ⟨r2, 3, none⟩ (.slice A d.n c')) r3 0 0 none 0 0) := EBox.but E7.out B8 (by have := hr3.out; omega)
  have DV8 : Hid (DevAt ((((w7.setCell ⟨r2, 0, none⟩ (.int .i64 d.cap)).setCell ⟨r2, 1, none⟩ (.int .i64 d.op)).setCell ⟨r2, 2, none⟩ (.int .i64 d.ac)).setCell ⟨r2, 3, none⟩ (.slice A d.n c')) ⟨d.cap, d.op, d.ac, A, d.n, c', xs'⟩) := ⟨RowS.butBlock DV7.out.row (fun q o e _ => by have := HAq.out q o e; omega) B8, fun y hy => Row.butBox (DV7.out.data y hy) Z7.out hnd B8⟩
  have RB8 : Hid (DoneAt ((((w7.setCell ⟨r2, 0, none⟩ (.int .i64 d.cap)).setCell ⟨r2, 1, none⟩ (.int .i64 d.op)).setCell ⟨r2, 2, none⟩ (.int .i64 d.ac)).setCell ⟨r2, 3, none⟩ (.slice A d.n c')) e0) := Row.butBox RB7.out Z7.out hnd B8
  have D8 : Hid (DBox ((((w7.setCell ⟨r2, 0, none⟩ (.int .i64 d.cap)).setCell ⟨r2, 1, none⟩ (.int .i64 d.op)).setCell ⟨r2, 2, none⟩ (.int .i64 d.ac)).setCell ⟨r2, 3, none⟩ (.slice A d.n c')) g6 ⟨d.cap, d.op, d.ac, A, d.n, c', xs'⟩) := Cells.but D7.out B8 (by have := HG6.out; omega)
  have L8 : Hid (Below w.heap.size w ((((w7.setCell ⟨r2, 0, none⟩ (.int .i64 d.cap)).setCell ⟨r2, 1, none⟩ (.int .i64 d.op)).setCell ⟨r2, 2, none⟩ (.int .i64 d.ac)).setCell ⟨r2, 3, none⟩ (.slice A d.n c'))) := below4 (g := r2) L7.out (by have := hr3.out; omega) _ _ _ _
  have K8 : Hid (((((w7.setCell ⟨r2, 0, none⟩ (.int .i64 d.cap)).setCell ⟨r2, 1, none⟩ (.int .i64 d.op)).setCell ⟨r2, 2, none⟩ (.int .i64 d.ac)).setCell ⟨r2, 3, none⟩ (.slice A d.n c')).heap[b]? = wb) := (B8.block HBS7.out (by have := HBq.out; omega)).trans K7.out
  have HBS8 : Hid (b < ((((w7.setCell ⟨r2, 0, none⟩ (.int .i64 d.cap)).setCell ⟨r2, 1, none⟩ (.int .i64 d.op)).setCell ⟨r2, 2, none⟩ (.int .i64 d.ac)).setCell ⟨r2, 3, none⟩ (.slice A d.n c')).heap.size) := Nat.lt_of_lt_of_le HBS7.out B8.by_.size
  clear z0 z1 z2 z3 f0 f1 f2 f3 hnd B8
  refine hK.out _ _ (hcell _ K8.out D8.out) (fun hHeld => ?_)
  clear hK K
  (try simp only [Act.put, List.setIfInBounds_toArray, List.set_cons_zero, List.set_cons_succ])
  generalize (((w7.setCell ⟨r2, 0, none⟩ (.int .i64 d.cap)).setCell ⟨r2, 1, none⟩ (.int .i64 d.op)).setCell ⟨r2, 2, none⟩ (.int .i64 d.ac)).setCell ⟨r2, 3, none⟩ (.slice A d.n c') = w8 at *
  refine Reg.step 5 rfl (by kernel_rfl) (by rfl) (fun K hK => ?_)
  obtain ⟨z0, z1, z2⟩ := E8.out.cells
  obtain ⟨f0, f1, f2⟩ := E8.out.frozen
  go_simp
  have B9 : But r3 w8 (((w8.setCell ⟨r3, 0, none⟩ (.int .i64 e0.p.e)).setCell ⟨r3, 1, none⟩ (.int .i64 e0.p.at_)).setCell ⟨r3, 2, none⟩ (.slice e0.B e0.p.b.length e0.k)) := But.set3 (But.refl r3 w8) 0 1 2 _ _ _
  have Z9 : Hid (Cells (((w8.setCell ⟨r3, 0, none⟩ (.int .i64 e0.p.e)).setCell ⟨r3, 1, none⟩ (.int .i64 e0.p.at_)).setCell ⟨r3, 2, none⟩ (.slice e0.B e0.p.b.length e0.k)) r2 25 #[.int .i64 d.cap, .int .i64 d.op, .int .i64 d.ac, .slice A d.n c']) := Cells.but Z8.out B9 (by have := hr3.out; omega)
  have E9 : Hid (EBox (((w8.setCell ⟨r3, 0, none⟩ (.int .i64 e0.p.e)).setCell ⟨r3, 1, none⟩ (.int .i64 e0.p.at_)).setCell ⟨r3, 2, none⟩ (.slice e0.B e0.p.b.length e0.k)) r3 e0.p.e e0.p.at_ e0.B e0.p.b.length e0.k) := EBox.store E8.out _ _ _ _ _
  have DV9 : Hid (DevAt (((w8.setCell ⟨r3, 0, none⟩ (.int .i64 e0.p.e)).setCell ⟨r3, 1, none⟩ (.int .i64 e0.p.at_)).setCell ⟨r3, 2, none⟩ (.slice e0.B e0.p.b.length e0.k)) ⟨d.cap, d.op, d.ac, A, d.n, c', xs'⟩) := ⟨RowS.butBlock DV8.out.row (fun q o e _ => by have := HAq.out q o e; omega) B9, fun y hy => EBox.row3 E8.out (DV8.out.data y hy) _ _ _ _ _⟩
  have RB9 : Hid (DoneAt (((w8.setCell ⟨r3, 0, none⟩ (.int .i64 e0.p.e)).setCell ⟨r3, 1, none⟩ (.int .i64 e0.p.at_)).setCell ⟨r3, 2, none⟩ (.slice e0.B e0.p.b.length e0.k)) e0) := EBox.row3 E8.out RB8.out _ _ _ _ _
  have D9 : Hid (DBox (((w8.setCell ⟨r3, 0, none⟩ (.int .i64 e0.p.e)).setCell ⟨r3, 1, none⟩ (.int .i64 e0.p.at_)).setCell ⟨r3, 2, none⟩ (.slice e0.B e0.p.b.length e0.k)) g6 ⟨d.cap, d.op, d.ac, A, d.n, c', xs'⟩) := Cells.but D8.out B9 (by have := HG6.out; omega)
  have L9 : Hid (Below w.heap.size w (((w8.setCell ⟨r3, 0, none⟩ (.int .i64 e0.p.e)).setCell ⟨r3, 1, none⟩ (.int .i64 e0.p.at_)).setCell ⟨r3, 2, none⟩ (.slice e0.B e0.p.b.length e0.k))) := below3 (g := r3) L8.out (by have := hr3.out; omega) _ _ _
  have K9 : Hid ((((w8.setCell ⟨r3, 0, none⟩ (.int .i64 e0.p.e)).setCell ⟨r3, 1, none⟩ (.int .i64 e0.p.at_)).setCell ⟨r3, 2, none⟩ (.slice e0.B e0.p.b.length e0.k)).heap[b]? = wb) := (B9.block HBS8.out (by have := HBq.out; omega)).trans K8.out
  have HBS9 : Hid (b < (((w8.setCell ⟨r3, 0, none⟩ (.int .i64 e0.p.e)).setCell ⟨r3, 1, none⟩ (.int .i64 e0.p.at_)).setCell ⟨r3, 2, none⟩ (.slice e0.B e0.p.b.length e0.k)).heap.size) := Nat.lt_of_lt_of_le HBS8.out B9.by_.size
  clear z0 z1 z2 f0 f1 f2 B9
  refine hK.out _ _ (hcell _ K9.out D9.out) (fun hHeld => ?_)
  clear hK K
  (try simp only [Act.put, List.setIfInBounds_toArray, List.set_cons_zero, List.set_cons_succ])
  generalize ((w8.setCell ⟨r3, 0, none⟩ (.int .i64 e0.p.e)).setCell ⟨r3, 1, none⟩ (.int .i64 e0.p.at_)).setCell ⟨r3, 2, none⟩ (.slice e0.B e0.p.b.length e0.k) = w9 at *
  refine wpAnyH_done (by kernel_rfl) ?_ _
  clear hHeld
  go_wp2_with fail
  refine bodyPost_ret_by (results_two rfl _ _ r2 r3 _ _ _ _ _ _ _ _ rfl Z9.out Try.underlying25 rfl (by kernel_rfl) rfl E9.out Try.underlying38 rfl (by kernel_rfl)) rfl ?_
  exact ⟨A, c', xs', e0.B, e0.k, by rw [HMP.out], DV9.out, HPZ.out, by rw [← HMP.out]; exact RB9.out, L9.out, fun q o e => by have := (HAq.out q o e).1; have := hr3.out.1; omega⟩

end Zns
end Go.Proofs.Ytbmblgjilmgkeaa
