/-
  WHAT THE STATEMENTS ASK FIRST: the chapter's example (live).
-/
import Derived.Test.YtbmblgjilmgkeaaZnsNew
import Derived.Test.YtbmblgjilmgkeaaZnsFew
import Derived.Test.YtbmblgjilmgkeaaZonRefA
import Derived.Lib.SlBytesConst
namespace Go.Proofs.Ytbmblgjilmgkeaa
open Go.RowKit Mem Zon
namespace Zns

def lc1 : Cm := ⟨7, 1, 5, 0, 0, []⟩
def lc2 : Cm := ⟨1, 1, 4, 0, 0, [97#8]⟩
def lc3 : Cm := ⟨1, 1, 5, 0, 0, [97#8]⟩
def lz : List Zn := [nilZ, ⟨1, 5, [97#8]⟩, nilZ]
theorem live_new : newP 3 10 1 2 = ⟨10, 1, 2, [nilZ, nilZ, nilZ]⟩ ∧ errOf (boundsB 3 10 1 2) = 0 := ⟨rfl, rfl⟩
theorem live_ok : okD ⟨10, 1, 2, [nilZ, nilZ, nilZ]⟩ = true := by decide
theorem live_steps : stepsP 10 1 2 [nilZ, nilZ, nilZ] [lc1, lc2, lc3] = (lz, [⟨0, 0, []⟩, ⟨42, 0, []⟩, ⟨0, 0, []⟩]) := by rfl
theorem usedV_map (xs : List Zv) : usedV xs = ((xs.map Zv.z).map fun z => z.data.length).sum := by unfold usedV; rw [List.map_map]; rfl
def lx1 : Cx := ⟨lc1, none, 0⟩
def lx2 (q : Nat) : Cx := ⟨lc2, some ⟨q, 0, none⟩, 1⟩
def lx3 (q : Nat) : Cx := ⟨lc3, some ⟨q, 0, none⟩, 1⟩
theorem three_cmd {w : World} {q a b : Nat} (hq : q = w.heap.size) :
    RowS cellsC 6 (w.alloc (.cells #[.int .i64 7, .int .i64 1, .int .i64 5, .int .i64 0, .int .i64 0, .slice none 0 0, .int .i64 1, .int .i64 1, .int .i64 4, .int .i64 0, .int .i64 0, .slice (some ⟨a, 0, none⟩) 1 1, .int .i64 1, .int .i64 1, .int .i64 5, .int .i64 0, .int .i64 0, .slice (some ⟨b, 0, none⟩) 1 1] 36)) (some ⟨q, 0, none⟩) 3 3 [lx1, lx2 a, lx3 b] := by
  subst hq
  refine ⟨rfl, by omega, by omega, fun _ => ⟨_, _, rfl, by simp, fun i y hi j u hu => ?_⟩⟩
  have hj : j < 6 := by have := (List.getElem?_eq_some_iff.1 hu).1; simpa [cellsC] using this
  rw [cell_of_row _ w.heap.size (0 + i * 6 + j) _ _ (0, 0) (heap_alloc_new w _)]
  match i, hi with
  | 0, hi =>
    simp at hi; subst hi
    match j, hj, hu with
    | 0, _, hu => exact hu
    | 1, _, hu => exact hu
    | 2, _, hu => exact hu
    | 3, _, hu => exact hu
    | 4, _, hu => exact hu
    | 5, _, hu => exact hu
  | 1, hi =>
    simp at hi; subst hi
    match j, hj, hu with
    | 0, _, hu => exact hu
    | 1, _, hu => exact hu
    | 2, _, hu => exact hu
    | 3, _, hu => exact hu
    | 4, _, hu => exact hu
    | 5, _, hu => exact hu
  | 2, hi =>
    simp at hi; subst hi
    match j, hj, hu with
    | 0, _, hu => exact hu
    | 1, _, hu => exact hu
    | 2, _, hu => exact hu
    | 3, _, hu => exact hu
    | 4, _, hu => exact hu
    | 5, _, hu => exact hu

theorem three_of {α : Type} : ∀ {l : List α}, l.length = 3 → ∃ a b c, l = [a, b, c]
  | [a, b, c], _ => ⟨a, b, c, rfl⟩

set_option maxRecDepth 100000 in
set_option maxHeartbeats 3200000 in
theorem live_any (w : World) :
    Calls Try.prog 8 #[] w fun e w' => e = .returned (.bool true) ∧ Below w.heap.size w w' := by
  have HN := fun w => Lib.hid (new_any 3 10 1 2 w)
  rw [live_new.1, live_new.2] at HN
  have HA := fun d w L cs (h : DevAt w d) (hp : d.p = ⟨10, 1, 2, [nilZ, nilZ, nilZ]⟩) (hl : RowS cellsC 6 w L 3 3 cs) (hcs : ∀ x ∈ cs, CmdAt w x) => Lib.hid (all_ok h (by rw [← h.plen, hp]; decide) hl hcs (by omega) (by rw [hp]; exact live_ok))
  have HU := fun d w (h : DevAt w d) (hn : d.n ≤ 64) (hl : ∀ x ∈ d.xs, x.z.data.length ≤ 65536) => Lib.hid (used_any h hn hl)
  have kc := fun (w : World) (C : Array Value) (n c : Nat) => Lib.run_convert_bytes_const (P := Try.prog) w 34 5 C n c Try.underlying34 Try.underlying5
  unfold GaveD at HN
  unfold dxv Gone at *
  go_enter Try.func8, Try.ntmps8
  go_wp2_with fail
  refine (HN w).out.mono ?_
  rintro e w1 ⟨d, rfl, hdev, hp, hb1⟩
  have b2 : Below w1.heap.size w1 (w1.alloc (.cells #[.int .i64 d.cap, .int .i64 d.op, .int .i64 d.ac, .slice d.A d.n d.c] 25)) := (Below.refl _ w1).alloc (Nat.le_refl _) _
  have L2 := Lib.hid (hb1.trans (b2.mono hb1.size))
  have D2 := Lib.hid (hdev.below b2)
  have B2 := Lib.hid (DBox.new w1 d)
  have HP := Lib.hid hp
  have V2 : Hid (w.heap.size ≤ w1.heap.size) := hb1.size
  clear hdev hp hb1 b2 HN
  go_upto_region 2 with fail
  generalize w1.alloc (.cells #[.int .i64 d.cap, .int .i64 d.op, .int .i64 d.ac, .slice d.A d.n d.c] 25) = w2 at *
  generalize w1.heap.size = g at *
  obtain ⟨m0, m1, m2, m3⟩ := B2.out.cells
  have kc2 := kc (w2.alloc (.cells #[.int .u8 97] 5 (1, 2))) #[.int .u8 97] 1 1
  rw [World.size_alloc] at kc2
  have b3 : Below w2.heap.size w2 (w2.alloc (.cells #[.int .u8 97] 5 (1, 2))) := (Below.refl _ w2).alloc (Nat.le_refl _) _
  have r3 : Row cb (w2.alloc (.cells #[.int .u8 97] 5 (1, 2))) (some ⟨w2.heap.size, 0, none⟩) 1 1 [97#8] := row_new cb w2 [97#8] 5 (by decide) rfl rfl
  have b4 : Below (w2.alloc (.cells #[.int .u8 97] 5 (1, 2))).heap.size (w2.alloc (.cells #[.int .u8 97] 5 (1, 2))) ((w2.alloc (.cells #[.int .u8 97] 5 (1, 2))).alloc (.cells #[.int .u8 97] 5 (1, 2))) := (Below.refl _ _).alloc (Nat.le_refl _) _
  have r4 : Row cb ((w2.alloc (.cells #[.int .u8 97] 5 (1, 2))).alloc (.cells #[.int .u8 97] 5 (1, 2))) (some ⟨w2.heap.size + 1, 0, none⟩) 1 1 [97#8] := row_new cb (w2.alloc (.cells #[.int .u8 97] 5 (1, 2))) [97#8] 5 (by decide) rfl (by simp)
  have b5 : Below ((w2.alloc (.cells #[.int .u8 97] 5 (1, 2))).alloc (.cells #[.int .u8 97] 5 (1, 2))).heap.size ((w2.alloc (.cells #[.int .u8 97] 5 (1, 2))).alloc (.cells #[.int .u8 97] 5 (1, 2))) (((w2.alloc (.cells #[.int .u8 97] 5 (1, 2))).alloc (.cells #[.int .u8 97] 5 (1, 2))).alloc (.cells #[.int .i64 7, .int .i64 1, .int .i64 5, .int .i64 0, .int .i64 0, .slice none 0 0, .int .i64 1, .int .i64 1, .int .i64 4, .int .i64 0, .int .i64 0, .slice (some ⟨w2.heap.size, 0, none⟩) 1 1, .int .i64 1, .int .i64 1, .int .i64 5, .int .i64 0, .int .i64 0, .slice (some ⟨w2.heap.size + 1, 0, none⟩) 1 1] 36)) := (Below.refl _ _).alloc (Nat.le_refl _) _
  have b25 : Below w2.heap.size w2 (((w2.alloc (.cells #[.int .u8 97] 5 (1, 2))).alloc (.cells #[.int .u8 97] 5 (1, 2))).alloc (.cells #[.int .i64 7, .int .i64 1, .int .i64 5, .int .i64 0, .int .i64 0, .slice none 0 0, .int .i64 1, .int .i64 1, .int .i64 4, .int .i64 0, .int .i64 0, .slice (some ⟨w2.heap.size, 0, none⟩) 1 1, .int .i64 1, .int .i64 1, .int .i64 5, .int .i64 0, .int .i64 0, .slice (some ⟨w2.heap.size + 1, 0, none⟩) 1 1] 36)) := (b3.trans (b4.mono b3.size)).trans (b5.mono (Nat.le_trans b3.size b4.size))
  have hc3 : RowS cellsC 6 (((w2.alloc (.cells #[.int .u8 97] 5 (1, 2))).alloc (.cells #[.int .u8 97] 5 (1, 2))).alloc (.cells #[.int .i64 7, .int .i64 1, .int .i64 5, .int .i64 0, .int .i64 0, .slice none 0 0, .int .i64 1, .int .i64 1, .int .i64 4, .int .i64 0, .int .i64 0, .slice (some ⟨w2.heap.size, 0, none⟩) 1 1, .int .i64 1, .int .i64 1, .int .i64 5, .int .i64 0, .int .i64 0, .slice (some ⟨w2.heap.size + 1, 0, none⟩) 1 1] 36)) (some ⟨w2.heap.size + 1 + 1, 0, none⟩) 3 3 [lx1, lx2 w2.heap.size, lx3 (w2.heap.size + 1)] := three_cmd (by simp)
  have hcs : ∀ x ∈ [lx1, lx2 w2.heap.size, lx3 (w2.heap.size + 1)], CmdAt (((w2.alloc (.cells #[.int .u8 97] 5 (1, 2))).alloc (.cells #[.int .u8 97] 5 (1, 2))).alloc (.cells #[.int .i64 7, .int .i64 1, .int .i64 5, .int .i64 0, .int .i64 0, .slice none 0 0, .int .i64 1, .int .i64 1, .int .i64 4, .int .i64 0, .int .i64 0, .slice (some ⟨w2.heap.size, 0, none⟩) 1 1, .int .i64 1, .int .i64 1, .int .i64 5, .int .i64 0, .int .i64 0, .slice (some ⟨w2.heap.size + 1, 0, none⟩) 1 1] 36)) x := by
    intro x hx
    simp only [List.mem_cons, List.not_mem_nil, or_false] at hx
    rcases hx with rfl | rfl | rfl
    · exact ⟨Row.nil cb _, by decide⟩
    · exact ⟨(r3.below b4).below b5, by show (0 : Int) ≤ _; omega⟩
    · exact ⟨r4.below b5, by show (0 : Int) ≤ _; omega⟩
  have CS := Lib.hid hcs
  have C3 := Lib.hid hc3
  have D5 := Lib.hid (D2.out.below b25)
  have B5 := Lib.hid (B2.out.below b25)
  have L5 := Lib.hid (L2.out.trans (b25.mono L2.out.size))
  have G5 : Hid (g < (((w2.alloc (.cells #[.int .u8 97] 5 (1, 2))).alloc (.cells #[.int .u8 97] 5 (1, 2))).alloc (.cells #[.int .i64 7, .int .i64 1, .int .i64 5, .int .i64 0, .int .i64 0, .slice none 0 0, .int .i64 1, .int .i64 1, .int .i64 4, .int .i64 0, .int .i64 0, .slice (some ⟨w2.heap.size, 0, none⟩) 1 1, .int .i64 1, .int .i64 1, .int .i64 5, .int .i64 0, .int .i64 0, .slice (some ⟨w2.heap.size + 1, 0, none⟩) 1 1] 36)).heap.size) := B5.out.lt
  have HST : Hid (stepsP d.cap d.op d.ac (d.xs.map Zv.z) [lc1, lc2, lc3] = (lz, [⟨0, 0, []⟩, ⟨42, 0, []⟩, ⟨0, 0, []⟩])) := by
    have h := HP.out
    unfold Dx.p at h
    injection h with h1 h2 h3 h4
    show _ = _
    rw [h1, h2, h3, h4]
    exact live_steps
  clear b3 r3 b4 r4 b5 b25 hc3 hcs
  go_wp2_with fail
  refine (HA d _ _ _ D5.out HP.out C3.out CS.out).out.mono ?_
  rintro e w6 ⟨A, c', xs', B, es, rfl, hdev, hpl, hrow, hdn, hmp, hb, hAq, hBq⟩
  have hx1 : List.map Cx.c [lx1, lx2 w2.heap.size, lx3 (w2.heap.size + 1)] = [lc1, lc2, lc3] := rfl
  rw [hx1, HST.out] at hmp hpl
  obtain ⟨e0, e1, e2, rfl⟩ : ∃ e0 e1 e2, es = [e0, e1, e2] := three_of hrow.len
  have hmp' : e0.p = ⟨0, 0, []⟩ ∧ e1.p = ⟨42, 0, []⟩ ∧ e2.p = ⟨0, 0, []⟩ := by simpa using hmp
  obtain ⟨p0, p1, p2⟩ := hmp'
  have B6 := Lib.hid (B5.out.below hb)
  have L6 := Lib.hid (L5.out.trans (hb.mono L5.out.size))
  have D6 := Lib.hid hdev
  have HPL : Hid (xs'.map Zv.z = lz) := by show _ = _; injection hpl
  have HAq : Hid (∀ q o, A = some ⟨q, o, none⟩ → g < q) := by
    show ∀ _, _
    intro q o e
    have := hAq q o e
    have := G5.out
    omega
  obtain ⟨b, o, rfl, hbl, hec0⟩ := hrow.elem (i := 0) rfl
  obtain ⟨b', o', hbo, hbl', hec1⟩ := hrow.elem (i := 1) rfl
  injection hbo with hbo
  injection hbo with hb1 ho1
  subst hb1 ho1
  obtain ⟨b', o', hbo, hbl', hec2⟩ := hrow.elem (i := 2) rfl
  injection hbo with hbo
  injection hbo with hb1 ho1
  subst hb1 ho1
  have HNE : Hid (b ≠ g) := by
    have h1 := hBq b o rfl
    have h2 := G5.out
    show _ ≠ _
    omega
  have hec : ∀ W : World, W.heap[b]? = w6.heap[b]? → W.cell? ⟨b, o, none⟩ = some (.int .i64 0) ∧ W.cell? ⟨b, o + 3, none⟩ = some (.int .i64 42) ∧ W.cell? ⟨b, o + 6, none⟩ = some (.int .i64 0) ∧ W.cell? ⟨b, o + 6 + 1, none⟩ = some (.int .i64 0) := by
    intro W hW
    have h0 := hec0 W hW 0 _ rfl
    have h1 := hec1 W hW 0 _ rfl
    have h2 := hec2 W hW 0 _ rfl
    have h3 := hec2 W hW 1 _ rfl
    rw [p0] at h0
    rw [p1] at h1
    rw [p2] at h2 h3
    simp only [Nat.zero_mul, Nat.add_zero, Nat.one_mul] at h0 h1 h2 h3
    exact ⟨h0, h1, h2, h3⟩
  have HEC := Lib.hid hec
  have HBL := Lib.hid hbl
  clear hdev hpl hrow hdn hmp hb hAq hBq hec0 hec1 hec2 hbl hbl' p0 p1 p2 hec B5 L5 D5 C3 CS HA kc kc2 m0 m1 m2 m3 hx1 G5 HST
  obtain ⟨m0, m1, m2, m3⟩ := B6.out.cells
  obtain ⟨f0, f1, f2, f3⟩ := B6.out.frozen
  go_upto_region 3 with fail
  have BT : But g w6 ((((w6.setCell ⟨g, 0, none⟩ (.int .i64 d.cap)).setCell ⟨g, 1, none⟩ (.int .i64 d.op)).setCell ⟨g, 2, none⟩ (.int .i64 d.ac)).setCell ⟨g, 3, none⟩ (.slice A d.n c')) := But.set4 w6 g _ _ _ _
  have hnd := dev_not d.cap d.op d.ac d.A d.n d.c
  have D7 : Hid (DevAt ((((w6.setCell ⟨g, 0, none⟩ (.int .i64 d.cap)).setCell ⟨g, 1, none⟩ (.int .i64 d.op)).setCell ⟨g, 2, none⟩ (.int .i64 d.ac)).setCell ⟨g, 3, none⟩ (.slice A d.n c')) ⟨d.cap, d.op, d.ac, A, d.n, c', xs'⟩) := ⟨RowS.butBlock D6.out.row (fun q o e _ => by have := HAq.out q o e; omega) BT, fun y hy => Row.butBox (D6.out.data y hy) B6.out hnd BT⟩
  have B7 : Hid (DBox ((((w6.setCell ⟨g, 0, none⟩ (.int .i64 d.cap)).setCell ⟨g, 1, none⟩ (.int .i64 d.op)).setCell ⟨g, 2, none⟩ (.int .i64 d.ac)).setCell ⟨g, 3, none⟩ (.slice A d.n c')) g ⟨d.cap, d.op, d.ac, A, d.n, c', xs'⟩) := Cells.set4 B6.out _ _ _ _
  have L7 := Lib.hid (below4 (g := g) L6.out V2.out (.int .i64 d.cap) (.int .i64 d.op) (.int .i64 d.ac) (.slice A d.n c'))
  obtain ⟨k0, k1, k2, k3⟩ := HEC.out ((((w6.setCell ⟨g, 0, none⟩ (.int .i64 d.cap)).setCell ⟨g, 1, none⟩ (.int .i64 d.op)).setCell ⟨g, 2, none⟩ (.int .i64 d.ac)).setCell ⟨g, 3, none⟩ (.slice A d.n c')) (BT.block HBL.out HNE.out)
  clear BT hnd D6 B6 L6 HEC HBL m0 m1 m2 m3 f0 f1 f2 f3
  generalize (((w6.setCell ⟨g, 0, none⟩ (.int .i64 d.cap)).setCell ⟨g, 1, none⟩ (.int .i64 d.op)).setCell ⟨g, 2, none⟩ (.int .i64 d.ac)).setCell ⟨g, 3, none⟩ (.slice A d.n c') = w7 at *
  obtain ⟨m0, m1, m2, m3⟩ := B7.out.cells
  dsimp only at m0 m1 m2 m3
  have hU := HU _ w7 D7.out (by show d.n ≤ 64; rw [← D2.out.plen, HP.out]; decide) (by
    intro x hx
    have h1 : x.z ∈ lz := by rw [← HPL.out]; exact List.mem_map.2 ⟨x, hx, rfl⟩
    simp only [lz, List.mem_cons, List.not_mem_nil, or_false] at h1
    rcases h1 with h1 | h1 | h1 <;> rw [h1] <;> decide)
  have hus : usedV xs' = 1 := by rw [usedV_map, HPL.out]; rfl
  dsimp only at hU
  rw [hus] at hU
  clear hus
  go_wp2_with fail
  refine hU.out.mono ?_
  rintro e w8 ⟨rfl, hb⟩
  have L8 := Lib.hid (L7.out.trans (hb.mono L7.out.size))
  clear hb
  go_wp2_with fail
  go_ret
  exact ⟨rfl, L8.out⟩
end Zns
end Go.Proofs.Ytbmblgjilmgkeaa
