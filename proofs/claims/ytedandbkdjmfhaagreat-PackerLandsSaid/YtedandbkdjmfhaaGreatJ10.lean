/-
  SEVERAL TEXTS IN ONE FILE: ZnsDoCall, CrcMath, CrcWords, CrcWalkA.
-/
import Derived.Test.YtedandbkdjmfhaaGreatJ09
import Derived.WalkKit
import Derived.Laws.BitsAllLaws
import Derived.Below
import Derived.Laws.OwnMore
import Derived.Deep.AppendLies
import Derived.Deep.Draws
import Derived.Laws.Rows
import Derived.Test.YtedandbkdjmfhaaGreatRows
import Derived.LoopTactic
import Derived.Lib.Hide
import Derived.Deep.LoopGhost
set_option linter.unusedSimpArgs false
set_option linter.unusedVariables false
/-
  A WALK OVER zns.Do. (Written by gen_all.py.)
-/
namespace Go.Proofs.YtedandbkdjmfhaaGreat
open Go.RowKit Mem Zon
namespace Zns

/-- What Do gave. -/
def Did (w : World) (d : Dx) (r : Dv × Dn) (en : Ending) (w' : World) : Prop :=
  ∃ A c xs B k, en = .returned (.tuple #[.agg #[.int .i64 d.cap, .int .i64 d.op, .int .i64 d.ac, .slice A d.n c], .agg #[.int .i64 r.2.e, .int .i64 r.2.at_, .slice B r.2.b.length k]]) ∧ DevAt w' ⟨d.cap, d.op, d.ac, A, d.n, c, xs⟩ ∧ (⟨d.cap, d.op, d.ac, xs.map Zv.z⟩ : Dv) = r.1 ∧
    Row cb w' B r.2.b.length k r.2.b ∧ Below w.heap.size w w' ∧ (∀ q o, A = some ⟨q, o, none⟩ → w.heap.size ≤ q) ∧ (∀ v ∈ xs, Lo w.heap.size v.D)
theorem one_cmd {w : World} {x : Cx} {q : Nat} (hq : q = w.heap.size) : RowS cellsC 6 (w.alloc (.cells #[.int .i64 x.c.d, .int .i64 x.c.zone, .int .i64 x.c.epoch, .int .i64 x.c.off, .int .i64 x.c.n, .slice x.B x.c.b.length x.k] 43)) (some ⟨q, 0, none⟩) 1 1 [x] := by
  subst hq
  refine ⟨rfl, by omega, by omega, fun _ => ⟨_, _, rfl, by simp, fun i y hi j u hu => ?_⟩⟩
  match i, hi with
  | 0, hi =>
    simp at hi
    subst hi
    rw [cell_of_row _ w.heap.size (0 + 0 * 6 + j) _ _ (0, 0) (heap_alloc_new w _)]
    simpa [cellsC] using hu
theorem results_two {P : Program} {fn : Func} {p u : Tmp} {ty ty2 : TypeId} (h : fn.results = #[.cell p ty, .cell u ty2]) (tmps : Array Value) (w : World) (g g2 : Nat) (t t2 : TypeId) (cs cs2 : Array Value) (fr fr2 : Nat × Nat) (d d2 : TypeDesc)
    (hp : tmps.getD p undef = .pointer (some ⟨g, 0, none⟩)) (hg : w.heap[g]? = some (.cells cs t fr)) (hu : P.underlying ty = some d) (hd : (match d with | .struct _ | .array _ _ => true | _ => false) = true) (hi : (P.info? ty).map (·.size) = some cs.size)
    (hp2 : tmps.getD u undef = .pointer (some ⟨g2, 0, none⟩)) (hg2 : w.heap[g2]? = some (.cells cs2 t2 fr2)) (hu2 : P.underlying ty2 = some d2) (hd2 : (match d2 with | .struct _ | .array _ _ => true | _ => false) = true) (hi2 : (P.info? ty2).map (·.size) = some cs2.size) :
    (results fn tmps).run P w = .ok (.tuple #[.agg cs, .agg cs2]) w := by
  have hp' : tmps[p]?.getD undef = .pointer (some ⟨g, 0, none⟩) := by simpa using hp
  have hp2' : tmps[u]?.getD undef = .pointer (some ⟨g2, 0, none⟩) := by simpa using hp2
  simp [results, h, hp', hp2', asAddr, Result.andThen, run_loadVar_row w g t ty cs fr d hg hu hd hi, run_loadVar_row w g2 t2 ty2 cs2 fr2 d2 hg2 hu2 hd2 hi2]

theorem four_new (w : World) (d : Dx) (x : Cx) :
    Hid (Below w.heap.size w ((((w.alloc (.cells #[.int .i64 d.cap, .int .i64 d.op, .int .i64 d.ac, .slice d.A d.n d.c] 28)).alloc (.cells #[.int .i64 x.c.d, .int .i64 x.c.zone, .int .i64 x.c.epoch, .int .i64 x.c.off, .int .i64 x.c.n, .slice x.B x.c.b.length x.k] 43)).alloc (.cells #[.int .i64 0, .int .i64 0, .int .i64 0, .slice none 0 0] 28)).alloc (.cells #[.int .i64 0, .int .i64 0, .slice none 0 0] 39))) ∧ Hid (DBox ((((w.alloc (.cells #[.int .i64 d.cap, .int .i64 d.op, .int .i64 d.ac, .slice d.A d.n d.c] 28)).alloc (.cells #[.int .i64 x.c.d, .int .i64 x.c.zone, .int .i64 x.c.epoch, .int .i64 x.c.off, .int .i64 x.c.n, .slice x.B x.c.b.length x.k] 43)).alloc (.cells #[.int .i64 0, .int .i64 0, .int .i64 0, .slice none 0 0] 28)).alloc (.cells #[.int .i64 0, .int .i64 0, .slice none 0 0] 39)) w.heap.size d) ∧ Hid (CBox ((((w.alloc (.cells #[.int .i64 d.cap, .int .i64 d.op, .int .i64 d.ac, .slice d.A d.n d.c] 28)).alloc (.cells #[.int .i64 x.c.d, .int .i64 x.c.zone, .int .i64 x.c.epoch, .int .i64 x.c.off, .int .i64 x.c.n, .slice x.B x.c.b.length x.k] 43)).alloc (.cells #[.int .i64 0, .int .i64 0, .int .i64 0, .slice none 0 0] 28)).alloc (.cells #[.int .i64 0, .int .i64 0, .slice none 0 0] 39)) (w.heap.size + 1) x.c.d x.c.zone x.c.epoch x.c.off x.c.n x.B x.c.b.length x.k) ∧
      Hid (Cells ((((w.alloc (.cells #[.int .i64 d.cap, .int .i64 d.op, .int .i64 d.ac, .slice d.A d.n d.c] 28)).alloc (.cells #[.int .i64 x.c.d, .int .i64 x.c.zone, .int .i64 x.c.epoch, .int .i64 x.c.off, .int .i64 x.c.n, .slice x.B x.c.b.length x.k] 43)).alloc (.cells #[.int .i64 0, .int .i64 0, .int .i64 0, .slice none 0 0] 28)).alloc (.cells #[.int .i64 0, .int .i64 0, .slice none 0 0] 39)) (w.heap.size + 1 + 1) 28 #[.int .i64 0, .int .i64 0, .int .i64 0, .slice none 0 0]) ∧ Hid (EBox ((((w.alloc (.cells #[.int .i64 d.cap, .int .i64 d.op, .int .i64 d.ac, .slice d.A d.n d.c] 28)).alloc (.cells #[.int .i64 x.c.d, .int .i64 x.c.zone, .int .i64 x.c.epoch, .int .i64 x.c.off, .int .i64 x.c.n, .slice x.B x.c.b.length x.k] 43)).alloc (.cells #[.int .i64 0, .int .i64 0, .int .i64 0, .slice none 0 0] 28)).alloc (.cells #[.int .i64 0, .int .i64 0, .slice none 0 0] 39)) (w.heap.size + 1 + 1 + 1) 0 0 none 0 0) := by
  have b1 : Below w.heap.size w (w.alloc (.cells #[.int .i64 d.cap, .int .i64 d.op, .int .i64 d.ac, .slice d.A d.n d.c] 28)) := (Below.refl _ w).alloc (Nat.le_refl _) _
  have h1 : DBox (w.alloc (.cells #[.int .i64 d.cap, .int .i64 d.op, .int .i64 d.ac, .slice d.A d.n d.c] 28)) w.heap.size d := DBox.new w d
  have s1 : (w.alloc (.cells #[.int .i64 d.cap, .int .i64 d.op, .int .i64 d.ac, .slice d.A d.n d.c] 28)).heap.size = w.heap.size + 1 := by simp
  generalize w.alloc (.cells #[.int .i64 d.cap, .int .i64 d.op, .int .i64 d.ac, .slice d.A d.n d.c] 28) = w1 at *
  have b2 : Below w1.heap.size w1 (w1.alloc (.cells #[.int .i64 x.c.d, .int .i64 x.c.zone, .int .i64 x.c.epoch, .int .i64 x.c.off, .int .i64 x.c.n, .slice x.B x.c.b.length x.k] 43)) := (Below.refl _ w1).alloc (Nat.le_refl _) _
  have h2 : CBox (w1.alloc (.cells #[.int .i64 x.c.d, .int .i64 x.c.zone, .int .i64 x.c.epoch, .int .i64 x.c.off, .int .i64 x.c.n, .slice x.B x.c.b.length x.k] 43)) w1.heap.size x.c.d x.c.zone x.c.epoch x.c.off x.c.n x.B x.c.b.length x.k := Cells.new w1 _ _
  have s2 : (w1.alloc (.cells #[.int .i64 x.c.d, .int .i64 x.c.zone, .int .i64 x.c.epoch, .int .i64 x.c.off, .int .i64 x.c.n, .slice x.B x.c.b.length x.k] 43)).heap.size = w1.heap.size + 1 := by simp
  generalize w1.alloc (.cells #[.int .i64 x.c.d, .int .i64 x.c.zone, .int .i64 x.c.epoch, .int .i64 x.c.off, .int .i64 x.c.n, .slice x.B x.c.b.length x.k] 43) = w2 at *
  have b3 : Below w2.heap.size w2 (w2.alloc (.cells #[.int .i64 0, .int .i64 0, .int .i64 0, .slice none 0 0] 28)) := (Below.refl _ w2).alloc (Nat.le_refl _) _
  have h3 : Cells (w2.alloc (.cells #[.int .i64 0, .int .i64 0, .int .i64 0, .slice none 0 0] 28)) w2.heap.size 28 #[.int .i64 0, .int .i64 0, .int .i64 0, .slice none 0 0] := Cells.new w2 _ _
  have s3 : (w2.alloc (.cells #[.int .i64 0, .int .i64 0, .int .i64 0, .slice none 0 0] 28)).heap.size = w2.heap.size + 1 := by simp
  generalize w2.alloc (.cells #[.int .i64 0, .int .i64 0, .int .i64 0, .slice none 0 0] 28) = w3 at *
  have b4 : Below w3.heap.size w3 (w3.alloc (.cells #[.int .i64 0, .int .i64 0, .slice none 0 0] 39)) := (Below.refl _ w3).alloc (Nat.le_refl _) _
  have h4 : EBox (w3.alloc (.cells #[.int .i64 0, .int .i64 0, .slice none 0 0] 39)) w3.heap.size 0 0 none 0 0 := Cells.new w3 _ _
  generalize w3.alloc (.cells #[.int .i64 0, .int .i64 0, .slice none 0 0] 39) = w4 at *
  rw [s3, s2, s1] at h4
  rw [s2, s1] at h3
  rw [s1] at h2
  exact ⟨((b1.trans (b2.mono b1.size)).trans (b3.mono (by omega))).trans (b4.mono (by omega)), ((h1.below b2).below b3).below b4, CBox.below (CBox.below h2 b3) b4, Cells.below h3 b4, h4⟩
theorem stepsP_one (cap op ac : Int) (zs : List Zn) (c : Cm) : stepsP cap op ac zs [c] = ((stepP cap op ac zs c).1, [(stepP cap op ac zs c).2]) := rfl

set_option maxRecDepth 100000 in
set_option maxHeartbeats 12800000 in
theorem do_call {d : Dx} {x : Cx} {w : World} (h : DevAt w d) (hn : d.n ≤ 1000) (hc : CmdAt w x) (hok : okD d.p = true) :
    Calls Tryz.prog 7 #[dxv d, cxv x] w (Did w d (doP d.p x.c)) := by
  have HR := Lib.hid h
  have HC := Lib.hid hc
  have HPL := Lib.hid (show doP d.p x.c = (⟨d.cap, d.op, d.ac, (stepP d.cap d.op d.ac (d.xs.map Zv.z) x.c).1⟩, (stepP d.cap d.op d.ac (d.xs.map Zv.z) x.c).2) by unfold doP; rw [hok]; rfl)
  have HA := fun (w : World) (q : Nat) (hq : q = w.heap.size) (h : DevAt w d) (hc : CmdAt w x) => Lib.hid (all_ok (h.below ((Below.refl _ w).alloc (Nat.le_refl _) (.cells #[.int .i64 x.c.d, .int .i64 x.c.zone, .int .i64 x.c.epoch, .int .i64 x.c.off, .int .i64 x.c.n, .slice x.B x.c.b.length x.k] 43))) hn (one_cmd (x := x) hq) (by intro y hy; rw [List.mem_singleton.1 hy]; exact hc.below ((Below.refl _ w).alloc (Nat.le_refl _) _)) (by omega) hok)
  rw [HPL.out]
  clear h hc
  unfold dxv cxv Gone at *
  obtain ⟨L4, D4, C4, Z4, E4⟩ := four_new w d x
  have HST := Lib.hid (stepsP_one d.cap d.op d.ac (d.xs.map Zv.z) x.c)
  generalize stepP d.cap d.op d.ac (d.xs.map Zv.z) x.c = st at *
  go_enter Tryz.func7, Tryz.ntmps7
  go_upto_region 1 with fail
  have hr3 : Hid (w.heap.size < w.heap.size + 1 + 1 ∧ w.heap.size + 1 + 1 < w.heap.size + 1 + 1 + 1) := ⟨by omega, by omega⟩
  generalize (((w.alloc (.cells #[.int .i64 d.cap, .int .i64 d.op, .int .i64 d.ac, .slice d.A d.n d.c] 28)).alloc (.cells #[.int .i64 x.c.d, .int .i64 x.c.zone, .int .i64 x.c.epoch, .int .i64 x.c.off, .int .i64 x.c.n, .slice x.B x.c.b.length x.k] 43)).alloc (.cells #[.int .i64 0, .int .i64 0, .int .i64 0, .slice none 0 0] 28)).alloc (.cells #[.int .i64 0, .int .i64 0, .slice none 0 0] 39) = w4 at *
  generalize w.heap.size + 1 + 1 + 1 = r3 at *
  generalize w.heap.size + 1 + 1 = r2 at *
  obtain ⟨m0, m1, m2, m3⟩ := D4.out.cells
  obtain ⟨y0, y1, y2, y3, y4, y5⟩ := CBox.cells C4.out
  go_wp2_with fail
  refine (HA w4 _ rfl (HR.out.below L4.out) (HC.out.below L4.out)).out.mono ?_
  rintro e w5 ⟨A, c', xs', B, es, rfl, hdev, hpl, hrow, hdn, hmp, hb, hA, hB, hLO⟩
  have HLO : Hid (∀ v ∈ xs', Lo w.heap.size v.D) := Lib.hid fun v hv => (hLO v hv).mono (by have := L4.out.size; simp; omega)
  clear hLO
  have hb45 : Below w4.heap.size w4 w5 := ((Below.refl _ w4).alloc (Nat.le_refl _) _).trans (hb.mono (by simp))
  obtain ⟨e0, rfl⟩ : ∃ e0, es = [e0] := List.length_eq_one_iff.1 hrow.len
  have hx1 : List.map Cx.c [x] = [x.c] := rfl
  rw [hx1, HST.out] at hmp hpl
  have HMP : Hid (e0.p = st.2) := by show _ = _; simpa using hmp
  have b6 : Below w5.heap.size w5 (w5.alloc (.cells #[.int .i64 d.cap, .int .i64 d.op, .int .i64 d.ac, .slice A d.n c'] 28)) := (Below.refl _ w5).alloc (Nat.le_refl _) _
  have b46 := hb45.trans (b6.mono hb45.size)
  have L6 := Lib.hid (L4.out.trans (b46.mono L4.out.size))
  have Z6 := Lib.hid (Cells.below Z4.out b46)
  have E6 := Lib.hid (EBox.below E4.out b46)
  have DV6 := Lib.hid (hdev.below b6)
  have RB6 := Lib.hid ((hdn e0 (by simp)).below b6)
  have D6 : Hid (DBox (w5.alloc (.cells #[.int .i64 d.cap, .int .i64 d.op, .int .i64 d.ac, .slice A d.n c'] 28)) w5.heap.size ⟨d.cap, d.op, d.ac, A, d.n, c', xs'⟩) := DBox.new w5 ⟨d.cap, d.op, d.ac, A, d.n, c', xs'⟩
  have HPZ := Lib.hid hpl
  have HG : Hid (r2 < w5.heap.size ∧ r3 < w5.heap.size) := by
    have h1 := Cells.lt Z4.out
    have h2 := E4.out.lt
    have h3 := hb45.size
    exact ⟨by omega, by omega⟩
  have HAq : Hid (∀ q o, A = some ⟨q, o, none⟩ → r2 < q ∧ r3 < q) := by
    show ∀ _, _
    intro q o e
    have h := hA q o e
    have h1 := Cells.lt Z4.out
    have h2 := E4.out.lt
    simp only [World.size_alloc] at h
    exact ⟨by omega, by omega⟩
  obtain ⟨b, o, rfl, hbl, hec⟩ := hrow.elem (i := 0) rfl
  have HBq : Hid (r2 < b ∧ r3 < b ∧ b < w5.heap.size) := by
    have h := hB b o rfl
    have h1 := Cells.lt Z4.out
    have h2 := E4.out.lt
    simp only [World.size_alloc] at h
    exact ⟨by omega, by omega, hbl⟩
  have e6c : ∀ W : World, W.heap[b]? = w5.heap[b]? → W.cell? ⟨b, o, none⟩ = some (.int .i64 e0.p.e) ∧ W.cell? ⟨b, o + 1, none⟩ = some (.int .i64 e0.p.at_) ∧ W.cell? ⟨b, o + 2, none⟩ = some (.slice e0.B e0.p.b.length e0.k) := by
    intro W hW
    have h0 := hec W hW 0 _ rfl
    have h1 := hec W hW 1 _ rfl
    have h2 := hec W hW 2 _ rfl
    simp only [Nat.zero_mul, Nat.add_zero] at h0 h1 h2
    exact ⟨h0, h1, h2⟩
  have HBS : Hid (b < (w5.alloc (.cells #[.int .i64 d.cap, .int .i64 d.op, .int .i64 d.ac, .slice A d.n c'] 28)).heap.size) := by have := HBq.out.2.2; show _ < _; simp; omega
  have hw5 : Hid (∀ k, k < w5.heap.size → (w5.alloc (.cells #[.int .i64 d.cap, .int .i64 d.op, .int .i64 d.ac, .slice A d.n c'] 28)).heap[k]? = w5.heap[k]?) := fun k hk => b6.block k hk
  clear hmp hx1 hb45 hdev hpl hrow hdn hb hA hB hbl hec b6 b46 m0 m1 m2 m3 y0 y1 y2 y3 y4 y5 L4 D4 C4 Z4 E4 HA HST HPL HR HC
  go_upto_region 2 with fail
  have hcell : ∀ W : World, W.heap[b]? = w5.heap[b]? → DBox W w5.heap.size ⟨d.cap, d.op, d.ac, A, d.n, c', xs'⟩ → (W.cell? ⟨w5.heap.size, 0, none⟩ = some (.int .i64 d.cap) ∧ W.cell? ⟨w5.heap.size, 1, none⟩ = some (.int .i64 d.op) ∧ W.cell? ⟨w5.heap.size, 2, none⟩ = some (.int .i64 d.ac) ∧ W.cell? ⟨w5.heap.size, 3, none⟩ = some (.slice A d.n c')) ∧ (W.cell? ⟨b, o, none⟩ = some (.int .i64 e0.p.e) ∧ W.cell? ⟨b, o + 1, none⟩ = some (.int .i64 e0.p.at_) ∧ W.cell? ⟨b, o + 2, none⟩ = some (.slice e0.B e0.p.b.length e0.k)) := fun W h1 h2 => ⟨h2.cells, e6c W h1⟩
  generalize w5.alloc (.cells #[.int .i64 d.cap, .int .i64 d.op, .int .i64 d.ac, .slice A d.n c'] 28) = w6 at *
  have HBK : Hid (w6.heap[b]? = w5.heap[b]?) := hw5.out b HBq.out.2.2
  generalize hwb : w5.heap[b]? = wb at *
  clear hwb e6c hw5
  have HG6 : Hid (r2 < w5.heap.size ∧ r3 < w5.heap.size ∧ b < w5.heap.size) := ⟨HG.out.1, HG.out.2, HBq.out.2.2⟩
  generalize w5.heap.size = g6 at *
  refine wp_region_held_drew (S := fun W => (W.cell? ⟨g6, 0, none⟩ = some (.int .i64 d.cap) ∧ W.cell? ⟨g6, 1, none⟩ = some (.int .i64 d.op) ∧ W.cell? ⟨g6, 2, none⟩ = some (.int .i64 d.ac) ∧ W.cell? ⟨g6, 3, none⟩ = some (.slice A d.n c')) ∧ (W.cell? ⟨b, o, none⟩ = some (.int .i64 e0.p.e) ∧ W.cell? ⟨b, o + 1, none⟩ = some (.int .i64 e0.p.at_) ∧ W.cell? ⟨b, o + 2, none⟩ = some (.slice e0.B e0.p.b.length e0.k)))
    (by kernel_rfl) (hcell _ HBK.out D6.out) (fun hHeld => ?_)
  have Z7 : Hid (Cells w6.drew r2 28 #[.int .i64 0, .int .i64 0, .int .i64 0, .slice none 0 0]) := Z6
  have E7 : Hid (EBox w6.drew r3 0 0 none 0 0) := E6
  have DV7 : Hid (DevAt w6.drew ⟨d.cap, d.op, d.ac, A, d.n, c', xs'⟩) := DV6.out.below (Below.refl _ w6).drew
  have RB7 : Hid (DoneAt w6.drew e0) := RB6.out.below (Below.refl _ w6).drew
  have D7 : Hid (DBox w6.drew g6 ⟨d.cap, d.op, d.ac, A, d.n, c', xs'⟩) := D6
  have L7 : Hid (Below w.heap.size w w6.drew) := L6.out.drew
  have K7 : Hid (w6.drew.heap[b]? = wb) := HBK
  have HBS7 : Hid (b < w6.drew.heap.size) := HBS
  clear Z6 E6 DV6 RB6 D6 L6 HBK HBS
  generalize w6.drew = w7 at *
  refine Reg.tk 0 rfl ?_
  refine Reg.tk 1 rfl ?_
  refine Reg.tk 2 rfl ?_
  refine Reg.tk 3 rfl ?_
  refine Reg.step 4 rfl (by kernel_rfl) (by rfl) (fun K hK => ?_)
  have z0 : w7.cell? ⟨r2, 0, none⟩ = some (.int .i64 0) := Cells.cell Z7.out 0
  have z1 : w7.cell? ⟨r2, 1, none⟩ = some (.int .i64 0) := Cells.cell Z7.out 1
  have z2 : w7.cell? ⟨r2, 2, none⟩ = some (.int .i64 0) := Cells.cell Z7.out 2
  have z3 : w7.cell? ⟨r2, 3, none⟩ = some (.slice none 0 0) := Cells.cell Z7.out 3
  have f0 : w7.frozen? ⟨r2, 0, none⟩ = false := Cells.frozen Z7.out 0
  have f1 : w7.frozen? ⟨r2, 1, none⟩ = false := Cells.frozen Z7.out 1
  have f2 : w7.frozen? ⟨r2, 2, none⟩ = false := Cells.frozen Z7.out 2
  have f3 : w7.frozen? ⟨r2, 3, none⟩ = false := Cells.frozen Z7.out 3
  go_simp
  have B8 : But r2 w7 ((((w7.setCell ⟨r2, 0, none⟩ (.int .i64 d.cap)).setCell ⟨r2, 1, none⟩ (.int .i64 d.op)).setCell ⟨r2, 2, none⟩ (.int .i64 d.ac)).setCell ⟨r2, 3, none⟩ (.slice A d.n c')) := But.set4 w7 r2 (.int .i64 d.cap) (.int .i64 d.op) (.int .i64 d.ac) (.slice A d.n c')
  have hnd := dev_not 0 0 0 none 0 0
  have Z8 : Hid (Cells ((((w7.setCell ⟨r2, 0, none⟩ (.int .i64 d.cap)).setCell ⟨r2, 1, none⟩ (.int .i64 d.op)).setCell ⟨r2, 2, none⟩ (.int .i64 d.ac)).setCell ⟨r2, 3, none⟩ (.slice A d.n c')) r2 28 #[.int .i64 d.cap, .int .i64 d.op, .int .i64 d.ac, .slice A d.n c']) := Cells.set4 Z7.out _ _ _ _
  have E8 : Hid (EBox ((((w7.setCell ⟨r2, 0, none⟩ (.int .i64 d.cap)).setCell ⟨r2, 1, none⟩ (.int .i64 d.op)).setCell ⟨r2, 2, none⟩ (.int .i64 d.ac)).setCell ⟨r2, 3, none⟩ (.slice A d.n c')) r3 0 0 none 0 0) := EBox.but E7.out B8 (by have := hr3.out; omega)
  have DV8 : Hid (DevAt ((((w7.setCell ⟨r2, 0, none⟩ (.int .i64 d.cap)).setCell ⟨r2, 1, none⟩ (.int .i64 d.op)).setCell ⟨r2, 2, none⟩ (.int .i64 d.ac)).setCell ⟨r2, 3, none⟩ (.slice A d.n c')) ⟨d.cap, d.op, d.ac, A, d.n, c', xs'⟩) := ⟨RowS.butBlock DV7.out.row (fun q o e _ => by have := HAq.out q o e; omega) B8, fun y hy => Row.butBox (DV7.out.data y hy) Z7.out hnd B8⟩
  have RB8 : Hid (DoneAt ((((w7.setCell ⟨r2, 0, none⟩ (.int .i64 d.cap)).setCell ⟨r2, 1, none⟩ (.int .i64 d.op)).setCell ⟨r2, 2, none⟩ (.int .i64 d.ac)).setCell ⟨r2, 3, none⟩ (.slice A d.n c')) e0) := Row.butBox RB7.out Z7.out hnd B8
  have D8 : Hid (DBox ((((w7.setCell ⟨r2, 0, none⟩ (.int .i64 d.cap)).setCell ⟨r2, 1, none⟩ (.int .i64 d.op)).setCell ⟨r2, 2, none⟩ (.int .i64 d.ac)).setCell ⟨r2, 3, none⟩ (.slice A d.n c')) g6 ⟨d.cap, d.op, d.ac, A, d.n, c', xs'⟩) := Cells.but D7.out B8 (by have := HG6.out; omega)
  have L8 : Hid (Below w.heap.size w ((((w7.setCell ⟨r2, 0, none⟩ (.int .i64 d.cap)).setCell ⟨r2, 1, none⟩ (.int .i64 d.op)).setCell ⟨r2, 2, none⟩ (.int .i64 d.ac)).setCell ⟨r2, 3, none⟩ (.slice A d.n c'))) := below4 (g := r2) L7.out (by have := hr3.out; omega) _ _ _ _
  have K8 : Hid (((((w7.setCell ⟨r2, 0, none⟩ (.int .i64 d.cap)).setCell ⟨r2, 1, none⟩ (.int .i64 d.op)).setCell ⟨r2, 2, none⟩ (.int .i64 d.ac)).setCell ⟨r2, 3, none⟩ (.slice A d.n c')).heap[b]? = wb) := (B8.block HBS7.out (by have := HBq.out; omega)).trans K7.out
  have HBS8 : Hid (b < ((((w7.setCell ⟨r2, 0, none⟩ (.int .i64 d.cap)).setCell ⟨r2, 1, none⟩ (.int .i64 d.op)).setCell ⟨r2, 2, none⟩ (.int .i64 d.ac)).setCell ⟨r2, 3, none⟩ (.slice A d.n c')).heap.size) := Nat.lt_of_lt_of_le HBS7.out B8.by_.size
  clear z0 z1 z2 z3 f0 f1 f2 f3 hnd B8
  refine hK.out _ _ (hcell _ K8.out D8.out) (fun hHeld => ?_)
  clear hK K
  (try simp only [Act.put, List.setIfInBounds_toArray, List.set_cons_zero, List.set_cons_succ])
  generalize (((w7.setCell ⟨r2, 0, none⟩ (.int .i64 d.cap)).setCell ⟨r2, 1, none⟩ (.int .i64 d.op)).setCell ⟨r2, 2, none⟩ (.int .i64 d.ac)).setCell ⟨r2, 3, none⟩ (.slice A d.n c') = w8 at *
  refine Reg.step 5 rfl (by kernel_rfl) (by rfl) (fun K hK => ?_)
  obtain ⟨z0, z1, z2⟩ := E8.out.cells
  obtain ⟨f0, f1, f2⟩ := E8.out.frozen
  go_simp
  have B9 : But r3 w8 (((w8.setCell ⟨r3, 0, none⟩ (.int .i64 e0.p.e)).setCell ⟨r3, 1, none⟩ (.int .i64 e0.p.at_)).setCell ⟨r3, 2, none⟩ (.slice e0.B e0.p.b.length e0.k)) := But.set3 (But.refl r3 w8) 0 1 2 _ _ _
  have Z9 : Hid (Cells (((w8.setCell ⟨r3, 0, none⟩ (.int .i64 e0.p.e)).setCell ⟨r3, 1, none⟩ (.int .i64 e0.p.at_)).setCell ⟨r3, 2, none⟩ (.slice e0.B e0.p.b.length e0.k)) r2 28 #[.int .i64 d.cap, .int .i64 d.op, .int .i64 d.ac, .slice A d.n c']) := Cells.but Z8.out B9 (by have := hr3.out; omega)
  have E9 : Hid (EBox (((w8.setCell ⟨r3, 0, none⟩ (.int .i64 e0.p.e)).setCell ⟨r3, 1, none⟩ (.int .i64 e0.p.at_)).setCell ⟨r3, 2, none⟩ (.slice e0.B e0.p.b.length e0.k)) r3 e0.p.e e0.p.at_ e0.B e0.p.b.length e0.k) := EBox.store E8.out _ _ _ _ _
  have DV9 : Hid (DevAt (((w8.setCell ⟨r3, 0, none⟩ (.int .i64 e0.p.e)).setCell ⟨r3, 1, none⟩ (.int .i64 e0.p.at_)).setCell ⟨r3, 2, none⟩ (.slice e0.B e0.p.b.length e0.k)) ⟨d.cap, d.op, d.ac, A, d.n, c', xs'⟩) := ⟨RowS.butBlock DV8.out.row (fun q o e _ => by have := HAq.out q o e; omega) B9, fun y hy => EBox.row3 E8.out (DV8.out.data y hy) _ _ _ _ _⟩
  have RB9 : Hid (DoneAt (((w8.setCell ⟨r3, 0, none⟩ (.int .i64 e0.p.e)).setCell ⟨r3, 1, none⟩ (.int .i64 e0.p.at_)).setCell ⟨r3, 2, none⟩ (.slice e0.B e0.p.b.length e0.k)) e0) := EBox.row3 E8.out RB8.out _ _ _ _ _
  have D9 : Hid (DBox (((w8.setCell ⟨r3, 0, none⟩ (.int .i64 e0.p.e)).setCell ⟨r3, 1, none⟩ (.int .i64 e0.p.at_)).setCell ⟨r3, 2, none⟩ (.slice e0.B e0.p.b.length e0.k)) g6 ⟨d.cap, d.op, d.ac, A, d.n, c', xs'⟩) := Cells.but D8.out B9 (by have := HG6.out; omega)
  have L9 : Hid (Below w.heap.size w (((w8.setCell ⟨r3, 0, none⟩ (.int .i64 e0.p.e)).setCell ⟨r3, 1, none⟩ (.int .i64 e0.p.at_)).setCell ⟨r3, 2, none⟩ (.slice e0.B e0.p.b.length e0.k))) := below3 (g := r3) L8.out (by have := hr3.out; omega) _ _ _
  have K9 : Hid ((((w8.setCell ⟨r3, 0, none⟩ (.int .i64 e0.p.e)).setCell ⟨r3, 1, none⟩ (.int .i64 e0.p.at_)).setCell ⟨r3, 2, none⟩ (.slice e0.B e0.p.b.length e0.k)).heap[b]? = wb) := (B9.block HBS8.out (by have := HBq.out; omega)).trans K8.out
  have HBS9 : Hid (b < (((w8.setCell ⟨r3, 0, none⟩ (.int .i64 e0.p.e)).setCell ⟨r3, 1, none⟩ (.int .i64 e0.p.at_)).setCell ⟨r3, 2, none⟩ (.slice e0.B e0.p.b.length e0.k)).heap.size) := Nat.lt_of_lt_of_le HBS8.out B9.by_.size
  clear z0 z1 z2 f0 f1 f2 B9
  refine hK.out _ _ (hcell _ K9.out D9.out) (fun hHeld => ?_)
  clear hK K
  (try simp only [Act.put, List.setIfInBounds_toArray, List.set_cons_zero, List.set_cons_succ])
  generalize ((w8.setCell ⟨r3, 0, none⟩ (.int .i64 e0.p.e)).setCell ⟨r3, 1, none⟩ (.int .i64 e0.p.at_)).setCell ⟨r3, 2, none⟩ (.slice e0.B e0.p.b.length e0.k) = w9 at *
  refine wpAnyH_done (by kernel_rfl) ?_ _
  clear hHeld
  go_wp2_with fail
  refine bodyPost_ret_by (results_two rfl _ _ r2 r3 _ _ _ _ _ _ _ _ rfl Z9.out Tryz.underlying28 rfl (by kernel_rfl) rfl E9.out Tryz.underlying39 rfl (by kernel_rfl)) rfl ?_
  exact ⟨A, c', xs', e0.B, e0.k, by rw [HMP.out], DV9.out, HPZ.out, by rw [← HMP.out]; exact RB9.out, L9.out, fun q o e => by have := (HAq.out q o e).1; have := hr3.out.1; omega, HLO.out⟩

end Zns
end Go.Proofs.YtedandbkdjmfhaaGreat
/-
  THE PLAIN MATHEMATICS OF CRC-32C, over words of 32 bits: the register's step, that it is linear, what goes by bytes, what goes by zeros, and that it loses nothing. No program is named here.
-/
namespace Go.Proofs.YtedandbkdjmfhaaGreat
namespace Crc

/-- A word as the program's number. -/
def v (c : BitVec 32) : Int := (c.toNat : Int)
/-- A byte as the program's number. -/
def u (x : BitVec 8) : Int := (x.toNat : Int)
def poly : BitVec 32 := 0x82f63b78#32
def ones : BitVec 32 := 0xffffffff#32

/-- The register goes one bit to the right. -/
def sh (c : BitVec 32) : BitVec 32 := if c.getLsbD 0 then (c >>> 1) ^^^ poly else c >>> 1
def shn : Nat → BitVec 32 → BitVec 32
  | 0, c => c
  | n + 1, c => shn n (sh c)

theorem sh_xor (a b : BitVec 32) : sh (a ^^^ b) = sh a ^^^ sh b := by
  unfold sh
  rw [BitVec.getLsbD_xor, BitVec.ushiftRight_xor_distrib]
  cases a.getLsbD 0 <;> cases b.getLsbD 0 <;> simp
  · rw [BitVec.xor_assoc]
  · rw [BitVec.xor_assoc, BitVec.xor_assoc, BitVec.xor_comm poly]
  · rw [BitVec.xor_assoc, ← BitVec.xor_assoc poly, BitVec.xor_comm poly, BitVec.xor_assoc, BitVec.xor_self, BitVec.xor_zero]

theorem sh_zero : sh 0#32 = 0#32 := by decide
theorem shn_xor (n : Nat) : ∀ a b : BitVec 32, shn n (a ^^^ b) = shn n a ^^^ shn n b := by
  induction n with
  | zero => intro a b; rfl
  | succ n ih => intro a b; simp only [shn]; rw [sh_xor, ih]
theorem shn_zero (n : Nat) : shn n 0#32 = 0#32 := by
  induction n with
  | zero => rfl
  | succ n ih => simp only [shn]; rw [sh_zero, ih]
theorem shn_add (m n : Nat) : ∀ c, shn (m + n) c = shn m (shn n c) := by
  induction n with
  | zero => intro c; rfl
  | succ n ih => intro c; show shn (m + n) (sh c) = _; rw [ih]; rfl
theorem shn_succ (n : Nat) (c : BitVec 32) : shn (n + 1) c = sh (shn n c) := by rw [Nat.add_comm, shn_add]; rfl

/-- Where the lowest n bits are not set, n steps are a shift. -/
theorem shn_clear (n : Nat) : ∀ c : BitVec 32, (∀ i, i < n → c.getLsbD i = false) → shn n c = c >>> n := by
  induction n with
  | zero => intro c _; simp [shn]
  | succ n ih =>
    intro c h
    have h0 : sh c = c >>> 1 := by unfold sh; rw [h 0 (by omega)]; simp
    show shn n (sh c) = _
    rw [h0, ih _ (fun i hi => by rw [BitVec.getLsbD_ushiftRight]; exact h _ (by omega))]
    rw [← BitVec.shiftRight_add, Nat.add_comm]

/-- One byte goes in: the program's way by its table is the register's own. -/
def step (c : BitVec 32) (x : BitVec 8) : BitVec 32 := shn 8 (c ^^^ x.setWidth 32)

theorem step_table (c : BitVec 32) (x : BitVec 8) : step c x = (c >>> 8) ^^^ shn 8 ((c.setWidth 8 ^^^ x).setWidth 32) := by
  have hd : c ^^^ x.setWidth 32 = ((c >>> 8) <<< 8) ^^^ ((c.setWidth 8 ^^^ x).setWidth 32) := by
    apply BitVec.eq_of_getLsbD_eq
    intro i hi
    simp only [BitVec.getLsbD_xor, BitVec.getLsbD_shiftLeft, BitVec.getLsbD_ushiftRight, BitVec.getLsbD_setWidth]
    by_cases h : i < 8
    · simp [h, hi]
    · have h2 : x.getLsbD i = false := BitVec.getLsbD_of_ge x i (by omega)
      have h3 : 8 + (i - 8) = i := by omega
      simp [h, hi, h2, h3]
  unfold step
  rw [hd, shn_xor]
  congr 1
  rw [shn_clear]
  · apply BitVec.eq_of_getLsbD_eq
    intro i hi
    simp only [BitVec.getLsbD_shiftLeft, BitVec.getLsbD_ushiftRight]
    by_cases h : 8 + i < 32
    · simp [h]
    · have h2 : c.getLsbD (8 + i) = false := BitVec.getLsbD_of_ge c _ (by omega)
      simp [h2]
  · intro i hi
    simp only [BitVec.getLsbD_shiftLeft]
    simp [hi]

/-- The register behind the bytes of l. -/
def run (c : BitVec 32) (l : List (BitVec 8)) : BitVec 32 := l.foldl step c
/-- What a sum c goes on to, behind the bytes of l. -/
def goes (c : BitVec 32) (l : List (BitVec 8)) : BitVec 32 := ~~~ run (~~~ c) l
theorem run_append (c : BitVec 32) (a b : List (BitVec 8)) : run c (a ++ b) = run (run c a) b := List.foldl_append
theorem goes_append (c : BitVec 32) (a b : List (BitVec 8)) : goes (goes c a) b = goes c (a ++ b) := by
  unfold goes; rw [BitVec.not_not, run_append]
theorem goes_nil (c : BitVec 32) : goes c [] = c := by unfold goes run; simp
/-- The sum of pieces. -/
def sums (l : List (List (BitVec 8))) : BitVec 32 := l.foldl goes 0#32
theorem sums_flat (l : List (List (BitVec 8))) : ∀ c, l.foldl goes c = goes c l.flatten := by
  induction l with
  | nil => intro c; simp [goes_nil]
  | cons a l ih => intro c; simp only [List.foldl_cons, List.flatten_cons]; rw [ih, goes_append]

theorem zip_step (a b : BitVec 32) (x y : BitVec 8) : step (a ^^^ b) (x ^^^ y) = step a x ^^^ step b y := by
  unfold step
  rw [← shn_xor]
  congr 1
  rw [BitVec.setWidth_xor]
  ac_rfl
theorem run_xor : ∀ (l m : List (BitVec 8)) (a b : BitVec 32), l.length = m.length → run (a ^^^ b) (List.zipWith (· ^^^ ·) l m) = run a l ^^^ run b m
  | [], [], a, b, _ => rfl
  | x :: l, y :: m, a, b, h => by
    show run (step (a ^^^ b) (x ^^^ y)) _ = _
    rw [zip_step]
    exact run_xor l m _ _ (by simpa using h)
theorem run_zeros (n : Nat) : ∀ c, run c (List.replicate n 0#8) = shn (8 * n) c := by
  induction n with
  | zero => intro c; rfl
  | succ n ih =>
    intro c
    show run (step c 0#8) (List.replicate n 0#8) = _
    rw [ih]
    unfold step
    rw [← shn_add]
    simp
    rfl
/-- What was in the register ahead of l goes by zeros. -/
theorem run_split (c d : BitVec 32) (l : List (BitVec 8)) : run (c ^^^ d) l = run c l ^^^ shn (8 * l.length) d := by
  have h := run_xor l (List.replicate l.length 0#8) c d (by simp)
  have hz : List.zipWith (· ^^^ ·) l (List.replicate l.length 0#8) = l := by
    clear h
    induction l with
    | nil => rfl
    | cons x l ih => simp [List.replicate_succ, ih]
  rw [hz, run_zeros] at h
  exact h

theorem not_xor (x y : BitVec 32) : y ^^^ ~~~ x = ~~~ (x ^^^ y) := by
  apply BitVec.eq_of_getLsbD_eq
  intro i hi
  simp only [BitVec.getLsbD_xor, BitVec.getLsbD_not, hi]
  cases y.getLsbD i <;> cases x.getLsbD i <;> rfl
/-- JOIN: the sum of the first, gone by as many zeros as the second has bytes, with the second's sum put in. -/
theorem goes_join (a b : List (BitVec 8)) : shn (8 * b.length) (goes 0#32 a) ^^^ goes 0#32 b = goes 0#32 (a ++ b) := by
  unfold goes
  rw [run_append]
  generalize run (~~~ 0#32) a = r
  have h : run r b = run (~~~ 0#32) b ^^^ shn (8 * b.length) (~~~ r) := by
    rw [← run_split]
    congr 1
    apply BitVec.eq_of_getLsbD_eq
    intro i hi
    rw [BitVec.getLsbD_xor, BitVec.getLsbD_not, BitVec.getLsbD_not, BitVec.getLsbD_zero]
    cases r.getLsbD i <;> simp [hi]
  rw [h, not_xor]

/-! ### The square's way -/
def unity : BitVec 32 := 0x80000000#32
/-- product's loop: from bit i on. -/
def prodFrom (a : BitVec 32) : Nat → BitVec 32 → BitVec 32 → BitVec 32
  | 0, _, c => c
  | k + 1, b, c => prodFrom a k (sh b) (if a.getLsbD k then c ^^^ b else c)
def prod (a b : BitVec 32) : BitVec 32 := prodFrom a 32 b 0#32

theorem prodFrom_acc (a : BitVec 32) : ∀ k b c d, prodFrom a k b (c ^^^ d) = prodFrom a k b c ^^^ d := by
  intro k
  induction k with
  | zero => intro b c d; rfl
  | succ k ih =>
    intro b c d
    simp only [prodFrom]
    cases a.getLsbD k <;> simp
    · exact ih _ _ _
    · rw [← ih]
      congr 1
      ac_rfl
theorem prodFrom_shn (a : BitVec 32) (m : Nat) : ∀ k b c, prodFrom a k (shn m b) (shn m c) = shn m (prodFrom a k b c) := by
  intro k
  induction k with
  | zero => intro b c; rfl
  | succ k ih =>
    intro b c
    simp only [prodFrom]
    have h : sh (shn m b) = shn m (sh b) := by rw [← shn_succ]; rfl
    rw [h, ← ih]
    cases a.getLsbD k <;> simp
    rw [shn_xor]
theorem prodFrom_unity (a : BitVec 32) : ∀ k, k ≤ 32 → prodFrom a k (1#32 <<< (k - 1)) 0#32 = a &&& (BitVec.ofNat 32 (2 ^ k - 1)) := by
  intro k
  induction k with
  | zero => intro _; simp [prodFrom]
  | succ k ih =>
    intro hk
    simp only [prodFrom]
    have hacc : prodFrom a k (sh (1#32 <<< (k + 1 - 1))) (if a.getLsbD k then 0#32 ^^^ (1#32 <<< (k + 1 - 1)) else 0#32) =
        prodFrom a k (sh (1#32 <<< (k + 1 - 1))) 0#32 ^^^ (if a.getLsbD k then 1#32 <<< k else 0#32) := by
      rw [← prodFrom_acc]
      congr 1
      cases a.getLsbD k <;> simp
    rw [hacc]
    have hs : 0 < k → sh (1#32 <<< (k + 1 - 1)) = 1#32 <<< (k - 1) := by
      intro h0
      have hb : (1#32 <<< (k + 1 - 1)).getLsbD 0 = false := by
        simp only [BitVec.getLsbD_shiftLeft]
        simp [h0]
      unfold sh
      rw [hb]
      simp only [Bool.false_eq_true, if_false]
      apply BitVec.eq_of_getLsbD_eq
      intro i hi
      simp only [BitVec.getLsbD_shiftLeft, BitVec.getLsbD_ushiftRight, BitVec.getLsbD_one]
      by_cases h1 : i = k - 1
      · subst h1
        have e1 : 1 + (k - 1) = k := by omega
        simp [e1]
        omega
      · by_cases h2 : i < k - 1
        · have e1 : 1 + i < k := by omega
          simp [e1, h2]
        · have e1 : ¬ (1 + i < k) := by omega
          have e2 : ¬ (1 + i - k = 0) := by omega
          have e3 : ¬ (i - (k - 1) = 0) := by omega
          simp [e2, e3]
    have hz : prodFrom a k (sh (1#32 <<< (k + 1 - 1))) 0#32 = a &&& BitVec.ofNat 32 (2 ^ k - 1) := by
      rcases Nat.eq_zero_or_pos k with h0 | h0
      · subst h0; simp [prodFrom]
      · rw [hs h0]; exact ih (by omega)
    rw [hz]
    apply BitVec.eq_of_getLsbD_eq
    intro i hi
    have t1 : (BitVec.ofNat 32 (2 ^ k - 1)).getLsbD i = decide (i < k) := by
      rw [BitVec.getLsbD_ofNat, Nat.testBit_two_pow_sub_one]; simp [hi]
    have t2 : (BitVec.ofNat 32 (2 ^ (k + 1) - 1)).getLsbD i = decide (i < k + 1) := by
      rw [BitVec.getLsbD_ofNat, Nat.testBit_two_pow_sub_one]; simp [hi]
    rw [BitVec.getLsbD_xor, BitVec.getLsbD_and, BitVec.getLsbD_and, t1, t2]
    by_cases h1 : i = k
    · subst h1
      cases a.getLsbD i <;> simp
      omega
    · by_cases h2 : i < k
      · have h3 : i < k + 1 := by omega
        have hone : (1#32 <<< k).getLsbD i = false := by
          simp only [BitVec.getLsbD_shiftLeft]; simp [h2]
        cases a.getLsbD k <;> simp [h2, h3, hone]
      · have h3 : ¬ i < k + 1 := by omega
        have hone : (1#32 <<< k).getLsbD i = false := by
          simp only [BitVec.getLsbD_shiftLeft, BitVec.getLsbD_one]
          have : ¬ (i - k = 0) := by omega
          simp [this]
        cases a.getLsbD k <;> simp [h2, h3, hone]
theorem prod_unity (a : BitVec 32) : prod a unity = a := by
  have h := prodFrom_unity a 32 (by omega)
  have e : (1#32 <<< (32 - 1)) = unity := by decide
  rw [e] at h
  unfold prod
  rw [h]
  have e2 : BitVec.ofNat 32 (2 ^ 32 - 1) = BitVec.allOnes 32 := by decide
  rw [e2, BitVec.and_allOnes]
theorem prod_shn (a : BitVec 32) (m : Nat) : prod a (shn m unity) = shn m a := by
  have h := prodFrom_shn a m 32 unity 0#32
  rw [shn_zero] at h
  show prodFrom a 32 (shn m unity) 0#32 = _
  rw [h]
  show shn m (prod a unity) = _
  rw [prod_unity]
theorem oneByte_eq : (0x00800000#32) = shn 8 unity := by decide

/-! ### Nothing is lost -/
theorem sh_inj0 (c : BitVec 32) (h : sh c = 0#32) : c = 0#32 := by
  unfold sh at h
  cases hb : c.getLsbD 0
  · rw [hb] at h
    simp only [Bool.false_eq_true, if_false] at h
    apply BitVec.eq_of_getLsbD_eq
    intro i hi
    rcases Nat.eq_zero_or_pos i with h0 | h0
    · subst h0; rw [hb]; simp
    · have := congrArg (fun x => x.getLsbD (i - 1)) h
      simp only [BitVec.getLsbD_ushiftRight] at this
      have e : 1 + (i - 1) = i := by omega
      rw [e] at this
      rw [this]; simp
  · rw [hb] at h
    simp only [if_true] at h
    have := congrArg (fun x => x.getLsbD 31) h
    simp only [BitVec.getLsbD_xor, BitVec.getLsbD_ushiftRight] at this
    have e : c.getLsbD (1 + 31) = false := BitVec.getLsbD_of_ge c _ (by omega)
    rw [e] at this
    exact absurd this (by decide)
theorem shn_inj0 (n : Nat) : ∀ c, shn n c = 0#32 → c = 0#32 := by
  induction n with
  | zero => intro c h; exact h
  | succ n ih => intro c h; exact sh_inj0 _ (ih _ h)

end Crc
end Go.Proofs.YtedandbkdjmfhaaGreat
/-
  WORDS BETWEEN THE PLAIN MATHEMATICS AND THE WALK: how the program's numbers of 32 and 8 bits are spelled, and what a table of crc holds in memory.
-/
namespace Go.Proofs.YtedandbkdjmfhaaGreat
open Go.RowKit
namespace Crc

theorem v_nonneg (a : BitVec 32) : 0 ≤ v a := Int.natCast_nonneg _
theorem v_lt (a : BitVec 32) : v a < 4294967296 := by have := a.isLt; unfold v; omega
theorem u_nonneg (a : BitVec 8) : 0 ≤ u a := Int.natCast_nonneg _
theorem u_lt (a : BitVec 8) : u a < 256 := by have := a.isLt; unfold u; omega
theorem v_inj {a b : BitVec 32} (h : v a = v b) : a = b := by
  apply BitVec.eq_of_toNat_eq; unfold v at h; omega
theorem beq_v (a b : BitVec 32) : (v a == v b) = decide (a = b) := by
  by_cases h : a = b
  · subst h; simp
  · have : v a ≠ v b := fun e => h (v_inj e)
    simp [h, this]
theorem wrap_v (a : BitVec 32) : IntKind.u32.wrap (v a) = v a := by
  rw [IntKind.wrap_u32']; have := v_nonneg a; have := v_lt a; omega
theorem ofInt_v (a : BitVec 32) : BitVec.ofInt 32 (v a) = a := by
  unfold v; rw [BitVec.ofInt_natCast, BitVec.ofNat_toNat, BitVec.setWidth_eq]
theorem ofInt_u (a : BitVec 8) : BitVec.ofInt 8 (u a) = a := by
  unfold u; rw [BitVec.ofInt_natCast, BitVec.ofNat_toNat, BitVec.setWidth_eq]
theorem wrapNat (a : BitVec 32) : IntKind.u32.wrap (a.toNat : Int) = v a := wrap_v a
theorem xor_v (a b : BitVec 32) : bits .xor .u32 (v a) (v b) = v (a ^^^ b) := by
  show IntKind.u32.wrap ((BitVec.ofInt 32 (v a) ^^^ BitVec.ofInt 32 (v b)).toNat : Int) = _
  rw [ofInt_v, ofInt_v]; exact wrap_v _
theorem and_v (a b : BitVec 32) : bits .and .u32 (v a) (v b) = v (a &&& b) := by
  show IntKind.u32.wrap ((BitVec.ofInt 32 (v a) &&& BitVec.ofInt 32 (v b)).toNat : Int) = _
  rw [ofInt_v, ofInt_v]; exact wrap_v _
theorem xor_u (a b : BitVec 8) : bits .xor .u8 (u a) (u b) = u (a ^^^ b) := by
  show IntKind.u8.wrap ((BitVec.ofInt 8 (u a) ^^^ BitVec.ofInt 8 (u b)).toNat : Int) = _
  rw [ofInt_u, ofInt_u, IntKind.wrap_u8']
  have := u_nonneg (a ^^^ b); have := u_lt (a ^^^ b)
  show u (a ^^^ b) % 256 = _
  omega
theorem not_v (a : BitVec 32) : bits .xor .u32 4294967295 (v a) = v (~~~ a) := by
  have h := xor_v ones a
  have e : v ones = 4294967295 := by decide
  rw [e] at h
  have o : ones = BitVec.allOnes 32 := by decide
  rw [h, o, BitVec.allOnes_xor]
theorem not_v' (a : BitVec 32) : bits .xor .u32 (v a) 4294967295 = v (~~~ a) := by
  have h := xor_v a ones
  have e : v ones = 4294967295 := by decide
  rw [e] at h
  have o : ones = BitVec.allOnes 32 := by decide
  rw [h, o, BitVec.xor_allOnes]
theorem low_v (a : BitVec 32) : bits .and .u32 (v a) 1 = if a.getLsbD 0 then 1 else 0 := by
  have h := and_v a 1#32
  have e : v 1#32 = 1 := by decide
  rw [e] at h
  rw [h]
  cases hb : a.getLsbD 0
  · have : a &&& 1#32 = 0#32 := by
      apply BitVec.eq_of_getLsbD_eq
      intro i hi
      rcases Nat.eq_zero_or_pos i with h0 | h0
      · subst h0; rw [BitVec.getLsbD_and, hb]; simp
      · have : (1#32).getLsbD i = false := by rw [BitVec.getLsbD_one]; simp; omega
        rw [BitVec.getLsbD_and, this]; simp
    rw [this]; decide
  · have : a &&& 1#32 = 1#32 := by
      apply BitVec.eq_of_getLsbD_eq
      intro i hi
      rcases Nat.eq_zero_or_pos i with h0 | h0
      · subst h0; rw [BitVec.getLsbD_and, hb]; simp
      · have : (1#32).getLsbD i = false := by rw [BitVec.getLsbD_one]; simp; omega
        rw [BitVec.getLsbD_and, this]; simp
    rw [this]; decide
theorem shr_v (a : BitVec 32) (n : Nat) : v a / ((2 ^ n : Nat) : Int) = v (a >>> n) := by
  unfold v
  rw [BitVec.toNat_ushiftRight, Nat.shiftRight_eq_div_pow]
  omega
theorem shr1_v (a : BitVec 32) : v a / (2 : Int) = v (a >>> 1) := by have := shr_v a 1; simpa using this
theorem shr8_v (a : BitVec 32) : v a / (256 : Int) = v (a >>> 8) := by have := shr_v a 8; simpa using this
theorem sh_hit (a : BitVec 32) (h : a.getLsbD 0 = true) : bits .xor .u32 (v a / 2) 2197175160 = v (sh a) := by
  have e : (2197175160 : Int) = v poly := by decide
  rw [e, shr1_v, xor_v]; unfold sh; rw [h]; rfl
theorem sh_miss (a : BitVec 32) (h : a.getLsbD 0 = false) : v a / 2 = v (sh a) := by
  rw [shr1_v]; unfold sh; rw [h]; rfl
theorem low8_v (a : BitVec 32) : IntKind.u8.wrap (v a) = u (a.setWidth 8) := by
  rw [IntKind.wrap_u8']; unfold u v; rw [BitVec.toNat_setWidth]; omega
theorem low8_v' (a : BitVec 32) : v a % 256 = u (a.setWidth 8) := by
  unfold u v; rw [BitVec.toNat_setWidth]; omega
theorem wide_u (x : BitVec 8) : u x = v (x.setWidth 32) := by
  unfold u v; rw [BitVec.toNat_setWidth]; have := x.isLt; omega
theorem v_zero : v 0#32 = 0 := by decide
theorem one_at (j : Nat) (hj : j < 32) (a : BitVec 32) : a &&& (1#32 <<< j) = if a.getLsbD j then 1#32 <<< j else 0#32 := by
  apply BitVec.eq_of_getLsbD_eq
  intro i hi
  rw [BitVec.getLsbD_and]
  have t : (1#32 <<< j).getLsbD i = decide (i = j) := by
    simp only [BitVec.getLsbD_shiftLeft, BitVec.getLsbD_one]
    by_cases h : i = j
    · subst h; simp [hi]
    · by_cases h2 : i < j
      · simp [h, h2]
      · have : ¬ (i - j = 0) := by omega
        simp [h, this]
  rw [t]
  by_cases h : i = j
  · subst h; cases a.getLsbD i <;> simp; omega
  · cases a.getLsbD j <;> simp [h, t]
theorem half_v (k : Nat) (hk : k < 32) : (2147483648 : Int) / 2 ^ k = v (1#32 <<< (31 - k)) := by
  have h : v (1#32 <<< (31 - k)) = ((2 ^ (31 - k) : Nat) : Int) := by
    unfold v
    congr 1
    rw [BitVec.toNat_shiftLeft]
    have : 2 ^ (31 - k) < 2 ^ 32 := Nat.pow_lt_pow_right (by omega) (by omega)
    simp [Nat.shiftLeft_eq]
    omega
  have e : (2147483648 : Int) = ((2 ^ (31 - k) : Nat) : Int) * 2 ^ k := by
    rw [show ((2 ^ (31 - k) : Nat) : Int) = (2 : Int) ^ (31 - k) by simp, ← Int.pow_add, show 31 - k + k = 31 by omega]
    decide
  rw [h, e, Int.mul_ediv_cancel _ (by have : (0 : Int) < 2 ^ k := Int.pow_pos (by decide); omega)]
theorem bit_v (a : BitVec 32) (k : Nat) (hk : k < 32) : (bits .and .u32 (v a) (2147483648 / 2 ^ k) != 0) = a.getLsbD (31 - k) := by
  rw [half_v k hk, and_v, one_at _ (by omega)]
  cases a.getLsbD (31 - k)
  · simp [v_zero]
  · have : v (1#32 <<< (31 - k)) ≠ 0 := by
      rw [← half_v k hk]
      have h1 : (2 : Int) ^ k ≤ 2 ^ 31 := by have := Nat.pow_le_pow_right (n := 2) (by omega) (show k ≤ 31 by omega); exact_mod_cast this
      have h2 : (0 : Int) < 2 ^ k := Int.pow_pos (by decide)
      have h3 : 1 ≤ (2147483648 : Int) / 2 ^ k := (Int.le_ediv_iff_mul_le h2).2 (by simpa using h1)
      omega
    simp [this]
theorem odd_i64 (n : Nat) : (bits .and .i64 (n : Int) 1 == 1) = decide (n % 2 = 1) := by
  have e : bits .and .i64 (n : Int) 1 = ((n % 2 : Nat) : Int) := by
    show IntKind.i64.wrap ((BitVec.ofInt 64 (n : Int) &&& BitVec.ofInt 64 1).toNat : Int) = _
    have h1 : (BitVec.ofInt 64 1).toNat = 1 := by decide
    rw [BitVec.toNat_and, h1, BitVec.ofInt_natCast, BitVec.toNat_ofNat, Nat.and_one_is_mod]
    have : (n % 2 ^ 64) % 2 = n % 2 := by omega
    rw [this]
    have : n % 2 < 2 := Nat.mod_lt _ (by omega)
    simp [IntKind.wrap, IntKind.bits, IntKind.signed]
    omega
  rw [e]
  rcases Nat.mod_two_eq_zero_or_one n with h | h <;> simp [h]
theorem ret_u32 {a b : Int} (h : a = b) : Ending.returned (.int .u32 a) = .returned (.int .u32 b) := by rw [h]
theorem ret_i64 {a b : Int} (h : a = b) : Ending.returned (.int .i64 a) = .returned (.int .i64 b) := by rw [h]
theorem ret_bool {a b : Bool} (h : a = b) : Ending.returned (.bool a) = .returned (.bool b) := by rw [h]

/-- The world w' is w with new blocks, and with writes to block g alone. -/
structure Keep (g : Nat) (w w' : World) : Prop where
  by_ : w.grownBy w' (some g)
theorem Keep.refl (g : Nat) (w : World) : Keep g w w := ⟨⟨rfl, rfl, rfl, Nat.le_refl _, fun _ _ _ => rfl⟩⟩
theorem Keep.trans {g : Nat} {a b c : World} (h : Keep g a b) (k : Keep g b c) : Keep g a c :=
  ⟨⟨k.1.os.trans h.1.os, k.1.tape.trans h.1.tape, k.1.output.trans h.1.output, Nat.le_trans h.1.size k.1.size,
    fun i hi hn => (k.1.block i (Nat.lt_of_lt_of_le hi h.1.size) hn).trans (h.1.block i hi hn)⟩⟩
theorem Keep.drew {g : Nat} {a w : World} (h : Keep g a w) : Keep g a w.drew := h.trans ⟨⟨rfl, rfl, rfl, Nat.le_refl _, fun _ _ _ => rfl⟩⟩
theorem Keep.drewN {g : Nat} {a w : World} (h : Keep g a w) (n : Nat) : Keep g a (w.drewN n) := h.trans ⟨⟨rfl, rfl, rfl, Nat.le_refl _, fun _ _ _ => rfl⟩⟩
theorem Keep.alloc {g : Nat} {a w : World} (h : Keep g a w) (o : Obj) : Keep g a (w.alloc o) :=
  h.trans ⟨⟨rfl, rfl, rfl, by simp, fun k hk _ => Below.heap_alloc _ _ _ hk⟩⟩
theorem Keep.setCell {g : Nat} {a w : World} (h : Keep g a w) {p : Addr} (hp : p.block = g) (x : Value) : Keep g a (w.setCell p x) :=
  h.trans ⟨⟨rfl, rfl, rfl, by simp [World.setCell], fun k _ hn => Below.heap_setCell _ _ _ _ (fun e => hn (by rw [e, hp]))⟩⟩
theorem Keep.below {g : Nat} {a w : World} (h : Keep g a w) (hg : g ≤ a.heap.size) : Below g a w :=
  ⟨h.1.os, h.1.tape, h.1.output, h.1.size, fun k hk => h.1.block k (by omega) (fun e => by injection e with e; omega)⟩
theorem Keep.cell {g : Nat} {a w : World} (h : Keep g a w) {p : Addr} {x : Value} (hc : a.cell? p = some x) (hn : p.block ≠ g) : w.cell? p = some x :=
  h.1.cell hc (fun e => hn (by injection e))
/-- Where block g is one of the call's own, all that was there ahead of the call is as it was. -/
theorem Keep.low {g B : Nat} {a w : World} (h : Keep g a w) (hB : B ≤ g) (hs : B ≤ a.heap.size) : Below B a w :=
  ⟨h.1.os, h.1.tape, h.1.output, h.1.size, fun k hk => h.1.block k (by omega) (fun e => by injection e with e; omega)⟩

/-- The bytes l lie where the slice looks, outside block g. -/
def Bytes (w : World) (g : Nat) (A : Option Addr) (n : Nat) (l : List (BitVec 8)) : Prop :=
  l.length = n ∧ n ≤ 140737488351232 ∧ (0 < n → ∃ x, A = some x ∧ x.block ≠ g ∧ ∀ i b, l[i]? = some b → w.cell? (x.add i) = some (.int .u8 (u b)))
theorem Bytes.keep {w w' : World} {g : Nat} {A : Option Addr} {n : Nat} {l : List (BitVec 8)} (h : Bytes w g A n l) (k : Keep g w w') : Bytes w' g A n l := by
  refine ⟨h.1, h.2.1, fun h0 => ?_⟩
  obtain ⟨x, e, hx, hc⟩ := h.2.2 h0
  exact ⟨x, e, hx, fun i b hb => k.cell (hc i b hb) (by rw [show (x.add i).block = x.block from by unfold Addr.add; split <;> rfl]; exact hx)⟩
theorem add_none (b o k : Nat) : (⟨b, o, none⟩ : Addr).add k = ⟨b, o + k, none⟩ := by
  unfold Addr.add; split <;> simp_all
theorem Bytes.at_ {w : World} {g : Nat} {A : Option Addr} {n : Nat} {l : List (BitVec 8)} (h : Bytes w g A n l) (h0 : 0 < n) :
    ∃ b o, A = some ⟨b, o, none⟩ ∧ b ≠ g ∧ ∀ i x, l[i]? = some x → w.cell? ⟨b, o + i, none⟩ = some (.int .u8 (u x)) := by
  obtain ⟨⟨b, o, s⟩, e, hx, hc⟩ := h.2.2 h0
  have hl := h.1
  have h1 := World.cell?_spot (hc 0 _ (List.getElem?_eq_getElem (by omega)))
  have hs : s = none := by simpa [Addr.add] using h1
  subst hs
  exact ⟨b, o, e, hx, fun i x hi => by rw [← add_none]; exact hc i x hi⟩
theorem Bytes.none_ (w : World) (g : Nat) : Bytes w g none 0 [] := ⟨rfl, by omega, fun h => absurd h (by omega)⟩

/-- What a table holds: how often it was asked; made: whether its row of 256 words is there. -/
structure Tab (w : World) (g : Nat) (n : Int) (made : Bool) : Prop where
  blk : ∃ cs, w.heap[g]? = some (.cells cs 131 (0, 0)) ∧ cs.size = 260 ∧ cs[0]? = some (.int .u32 (if made then 1 else 0)) ∧ cs[1]? = some (.int .i32 0) ∧ cs[3]? = some (.int .i64 n) ∧
    (made = true → ∀ i : Nat, i < 256 → cs[4 + i]? = some (.int .u32 (v (shn 8 (BitVec.ofNat 32 i)))))
end Crc
end Go.Proofs.YtedandbkdjmfhaaGreat
/-
  WALKS OVER crc'S SMALL FUNCTIONS.
-/
namespace Go.Proofs.YtedandbkdjmfhaaGreat
open Go.RowKit
namespace Crc

theorem shift_any (c : BitVec 32) (w : World) :
    Calls Tryz.prog 97 #[.int .u32 (v c)] w fun e w' => e = .returned (.int .u32 (v (sh c))) ∧ w = w' := by
  cases hb : c.getLsbD 0
  · have h1 : (bits .and .u32 (v c) 1 == 1) = false := by rw [low_v, hb]; rfl
    have H := Lib.hid (sh_miss c hb)
    clear hb
    go_enter Tryz.func97, Tryz.ntmps97
    go_wp2
    go_ret
    exact ⟨ret_u32 H.out, rfl⟩
  · have h1 : (bits .and .u32 (v c) 1 == 1) = true := by rw [low_v, hb]; rfl
    have H := Lib.hid (sh_hit c hb)
    clear hb
    go_enter Tryz.func97, Tryz.ntmps97
    go_wp2
    go_ret
    exact ⟨ret_u32 H.out, rfl⟩



end Crc
end Go.Proofs.YtedandbkdjmfhaaGreat
