/-
  A WALK: one is put ahead of all that hangs together.
-/
import Derived.Test.YtfngebikihdogaaCacOut
namespace Go.Proofs.Ytfngebikihdogaa
open Go.RowKit Mem Box GM
namespace Cac

theorem first_nil {w : World} {g r : Nat} {m h s : Int} {p : Nat} {x : Kv} (H : DL w g r m [] h s) (hp : Node w p x none none) : DL ((w.setCell ⟨g, 3, none⟩ (ptr (some p))).setCell ⟨g, 2, none⟩ (ptr (some p))) g r m [(p, x)] h s := by
  have hg := H.head.ne_node hp
  exact ⟨(H.head.set3 (some p)).set2 (some p), ⟨(hp.other hg 3 _).other hg 2 _, trivial⟩, by simp [blk]⟩
theorem first_cons {w : World} {g r : Nat} {m h s : Int} {p : Nat} {x : Kv} {z : Nd} {l : List Nd} (H : DL w g r m (z :: l) h s) (hp : Node w p x none (some z.1)) (hn : p ∉ blk (z :: l)) : DL ((w.setCell ⟨z.1, 18, none⟩ (ptr (some p))).setCell ⟨g, 2, none⟩ (ptr (some p))) g r m ((p, x) :: z :: l) h s := by
  have hg := H.head.ne_node hp
  have hgs := H.head.ne_seg H.seg
  have hzg : z.1 ≠ g := fun e => hgs (by rw [← e]; exact List.mem_cons_self)
  have hzp : z.1 ≠ p := fun e => hn (by rw [← e]; exact List.mem_cons_self)
  have h1 := Head.set2 (Cells.set_other (g' := z.1) H.head hzg 18 (ptr (some p))) (some p)
  refine ⟨h1, ⟨(hp.other hzp 18 _).other hg 2 _, ?_⟩, List.nodup_cons.2 ⟨hn, H.nod⟩⟩
  exact (Seg.first H.seg H.nod (some p)).other hgs 2 _

set_option maxRecDepth 100000 in
set_option maxHeartbeats 3200000 in
theorem putFirst_any {w : World} {g r : Nat} {m h s : Int} {ns : List Nd} {p : Nat} {x : Kv} {nw od : Option Nat} (H : DL w g r m ns h s) (hp : Node w p x nw od) (hn : p ∉ blk ns) :
    Calls Try.prog 19 #[.pointer (some ⟨g, 0, none⟩), .pointer (some ⟨p, 0, none⟩)] w fun e w' => e = .returned (.tuple #[]) ∧ DL w' g r m ((p, x) :: ns) h s ∧ Mov (g :: p :: blk ns) w w' ∧ w'.heap.size = w.heap.size := by
  have hg := H.head.ne_node hp
  have HN := Lib.hid hn
  have N1 : Hid (Node ((w.setCell ⟨p, 18, none⟩ (ptr none)).setCell ⟨p, 19, none⟩ (ptr (hd ns none))) p x none (hd ns none)) := (hp.set18 none).set19 _
  have D1 : Hid (DL ((w.setCell ⟨p, 18, none⟩ (ptr none)).setCell ⟨p, 19, none⟩ (ptr (hd ns none))) g r m ns h s) := H.keep fun q hq => by
    have : q ≠ p := by
      rintro rfl
      rcases List.mem_cons.1 hq with e | hq
      · exact hg e.symm
      · exact hn hq
    exact (Below.heap_setCell _ _ _ _ this).trans (Below.heap_setCell _ _ _ _ this)
  have V1 : Hid (Mov [p] w ((w.setCell ⟨p, 18, none⟩ (ptr none)).setCell ⟨p, 19, none⟩ (ptr (hd ns none)))) := (Mov.set1 w (S := [p]) (by simp) 18 _).trans (Mov.set1 _ (S := [p]) (by simp) 19 _) (by simp)
  have Z1 : Hid (((w.setCell ⟨p, 18, none⟩ (ptr none)).setCell ⟨p, 19, none⟩ (ptr (hd ns none))).heap.size = w.heap.size) := (World.size_setCell _ _ _).trans (World.size_setCell _ _ _)
  have c2 := H.head.cells.2.2.1
  obtain ⟨p0, p1, p18, p19⟩ := hp.cells
  obtain ⟨f18, f19⟩ := hp.frozen
  have p19' : (w.setCell ⟨p, 18, none⟩ (.pointer none)).cell? ⟨p, 19, none⟩ = some (ptr od) := (hp.set18 none).cells.2.2.2
  have f19' : (w.setCell ⟨p, 18, none⟩ (.pointer none)).frozen? ⟨p, 19, none⟩ = false := (hp.set18 none).frozen.2
  obtain ⟨nb, hnb⟩ : ∃ o : Option Addr, ptr (hd ns none) = .pointer o := ⟨_, rfl⟩
  rw [hnb] at N1 D1 V1 Z1 c2
  rw [show ptr none = .pointer none from rfl] at N1 D1 V1 Z1
  clear H hp hn p0 p1 p19 f19 hnb
  go_enter Try.func19, Try.ntmps19
  go_upto_region 1 with fail
  generalize (w.setCell ⟨p, 18, none⟩ (.pointer none)).setCell ⟨p, 19, none⟩ (.pointer nb) = w1 at *
  clear c2 p18 f18 p19' f19'
  rcases ns with _ | ⟨z, l⟩
  · have D3 := Lib.hid (first_nil D1.out N1.out)
    have V3 := Lib.hid ((V1.out.mono (T := [g, p]) (by simp)).trans ((Mov.set1 w1 (S := [g]) (q := g) (by simp) 3 (ptr (some p))).trans (Mov.set1 _ (S := [g]) (q := g) (by simp) 2 (ptr (some p))) (by simp)) (by simp))
    have c2 : w1.cell? ⟨g, 2, none⟩ = some (.pointer none) := D1.out.head.cells.2.2.1
    have c3 := D1.out.head.cells.2.2.2.1
    have f3 := D1.out.head.frozen 3
    have H2 := D1.out.head.set3 (some p)
    have c2' : (w1.setCell ⟨g, 3, none⟩ (.pointer (some ⟨p, 0, none⟩))).cell? ⟨g, 2, none⟩ = some (.pointer none) := H2.cells.2.2.1
    have f2' : (w1.setCell ⟨g, 3, none⟩ (.pointer (some ⟨p, 0, none⟩))).frozen? ⟨g, 2, none⟩ = false := Head.frozen H2 2
    clear H2
    go_wp2_with fail
    refine bodyPost_end (results_none rfl _ _ _) rfl ?_
    exact ⟨rfl, D3.out, V3.out, ((World.size_setCell _ _ _).trans (World.size_setCell _ _ _)).trans Z1.out⟩
  · have D3 := Lib.hid (first_cons D1.out N1.out HN.out)
    have V3 := Lib.hid ((V1.out.mono (T := g :: p :: blk (z :: l)) (by simp)).trans ((Mov.set1 w1 (S := [g, z.1]) (q := z.1) (by simp) 18 (ptr (some p))).trans (Mov.set1 _ (S := [g, z.1]) (q := g) (by simp) 2 (ptr (some p))) (by simp)) (by simp [blk]))
    have hzg : z.1 ≠ g := fun e => D1.out.head.ne_seg D1.out.seg (by rw [← e]; exact List.mem_cons_self)
    have c2 : w1.cell? ⟨g, 2, none⟩ = some (.pointer (some ⟨z.1, 0, none⟩)) := D1.out.head.cells.2.2.1
    have cz := D1.out.seg.1.cells.2.2.1
    have fz := D1.out.seg.1.frozen.1
    have H2 : Head (w1.setCell ⟨z.1, 18, none⟩ (.pointer (some ⟨p, 0, none⟩))) g r m (hd (z :: l) none) (lst (z :: l) none) h s := Cells.set_other D1.out.head hzg 18 _
    have c2' : (w1.setCell ⟨z.1, 18, none⟩ (.pointer (some ⟨p, 0, none⟩))).cell? ⟨g, 2, none⟩ = some (.pointer (some ⟨z.1, 0, none⟩)) := H2.cells.2.2.1
    have f2' : (w1.setCell ⟨z.1, 18, none⟩ (.pointer (some ⟨p, 0, none⟩))).frozen? ⟨g, 2, none⟩ = false := Head.frozen H2 2
    clear H2 hzg
    go_wp2_with fail
    refine bodyPost_end (results_none rfl _ _ _) rfl ?_
    exact ⟨rfl, D3.out, V3.out, ((World.size_setCell _ _ _).trans (World.size_setCell _ _ _)).trans Z1.out⟩
end Cac
end Go.Proofs.Ytfngebikihdogaa
