/-
  SEVERAL TEXTS IN ONE FILE: PZnsDo, PZnsDoA, PZnsDoB, PZnsDoAny, PZnsClone, PZnsDesk, PZnsDone, PZnsAll, PZonPlain, PZnsFacts.
-/
import Derived.Test.YtmkagjnkpjpjcaaGreatJ16
import Derived.Test.YtmkagjnkpjpjcaaGreatJ13
import Derived.Laws.MakeOwn
import Derived.Test.YtmkagjnkpjpjcaaGreatJ12
namespace Go.Proofs.YtmkagjnkpjpjcaaGreat
set_option maxRecDepth 100000
set_option linter.unusedSimpArgs false
set_option linter.unusedVariables false
set_option maxHeartbeats 12800000
section
open Go.RowKit Mem Zon
namespace Zns
theorem do_bad {w:World} {g r:Nat} {x:Cx} (hm:∃cs,Cells w g 151 cs∧cs[4]? =some (.bool false)) (ha:Acts w r g):
  Calls Tryz.prog 80 #[.pointer (some ⟨g,0,none⟩),cxv x,.map (some r)] w fun e w'=>e= .returned (.agg #[.int .i64 1,.int .i64 0,.slice none 0 0])∧Below w.heap.size w w':=by
 obtain⟨cs,hc,h4⟩:=hm
 obtain⟨L1,C1,N1⟩:=act_new w x x.c.zone
 have hlk:∃u b,(Instr.lookup 147 (.map (some r)) (.int .i64 x.c.d) true).run Tryz.prog ((w.alloc (.cells #[.int .i64 x.c.d,.int .i64 x.c.zone,.int .i64 x.c.epoch,.int .i64 x.c.off,.int .i64 x.c.n,.slice x.B x.c.b.length x.k] 55)).alloc (.cells #[.int .i64 0,.int .i64 0,.slice none 0 0] 51))= .ok (.tuple #[u,.bool b]) ((w.alloc (.cells #[.int .i64 x.c.d,.int .i64 x.c.zone,.int .i64 x.c.epoch,.int .i64 x.c.off,.int .i64 x.c.n,.slice x.B x.c.b.length x.k] 55)).alloc (.cells #[.int .i64 0,.int .i64 0,.slice none 0 0] 51)):=by
  rcases e:knownB x.c.d
  ·exact⟨_,_,run_lookup_new (ha.below L1.out) e⟩
  ·exact⟨_,_,run_lookup_act (ha.below L1.out) e⟩
 obtain⟨u,b,hlk⟩:=hlk
 have m4:((w.alloc (.cells #[.int .i64 x.c.d,.int .i64 x.c.zone,.int .i64 x.c.epoch,.int .i64 x.c.off,.int .i64 x.c.n,.slice x.B x.c.b.length x.k] 55)).alloc (.cells #[.int .i64 0,.int .i64 0,.slice none 0 0] 51)).cell? ⟨g,4,none⟩=some (.bool false):=(Cells.cell (Cells.below hc L1.out) 4).trans h4
 unfold cxv
 go_enter Tryz.func80,Tryz.ntmps80
 go_upto_region 1 with fail
 generalize(w.alloc (.cells #[.int .i64 x.c.d,.int .i64 x.c.zone,.int .i64 x.c.epoch,.int .i64 x.c.off,.int .i64 x.c.n,.slice x.B x.c.b.length x.k] 55)).alloc (.cells #[.int .i64 0,.int .i64 0,.slice none 0 0] 51)=w1 at*
 obtain⟨y0,y1,y2,y3,y4,y5⟩:=CBox.cells C1.out
 obtain⟨n0,n1,n2⟩:=N1.out.cells
 obtain⟨f0,f1,f2⟩:=N1.out.frozen
 go_wp2_with fail
 refine bodyPost_ret_by (results_cell_row rfl _ _ (w.heap.size+1) _ _ _ _ rfl (EBox.store N1.out 1 0 none 0 0) Tryz.underlying51 rfl (by kernel_rfl)) rfl ?_
 exact⟨rfl,below3 L1.out (by omega) _ _ _⟩
theorem do_arg {k:Dk} {xs:List Zv} {w:World} {r:Nat} {x:Cx} (h:Desk k xs w) (ha:Acts w r k.g) (hbad:knownB x.c.d=false∨x.c.zone<0∨(k.n:Int)≤x.c.zone):
  Calls Tryz.prog 80 #[.pointer (some ⟨k.g,0,none⟩),cxv x,.map (some r)] w (Acted k w (stepP k.cap k.op k.ac (xs.map Zv.z) x.c)):=by
 have H0:=Lib.hid h
 have HA:=Lib.hid ha
 have hln:(xs.map Zv.z).length=k.n:=by rw[List.length_map];exact h.len
 have HPL:=Lib.hid (show stepP k.cap k.op k.ac (xs.map Zv.z) x.c=(xs.map Zv.z,fail_ 1) by
  have:(!knownB x.c.d||(decide (x.c.zone<0)||decide (((xs.map Zv.z).length:Int)≤x.c.zone)))=true:=by
   rw[hln]
   simpa using hbad
  unfold stepP
  rw[this];rfl)
 obtain⟨L1,C1,N1⟩:=act_new w x x.c.zone
 have H1:=Lib.hid (h.below L1.out)
 have hkn:=fun h=>run_lookup_new (d:=x.c.d) (ha.below L1.out) h
 have hka:=fun h=>run_lookup_act (d:=x.c.d) (ha.below L1.out) h
 clear h ha hln
 unfold cxv
 rcases e1:knownB x.c.d
 ·have hlk:=hkn e1
  clear hkn hka hbad
  go_enter Tryz.func80,Tryz.ntmps80
  go_upto_region 1 with fail
  generalize(w.alloc (.cells #[.int .i64 x.c.d,.int .i64 x.c.zone,.int .i64 x.c.epoch,.int .i64 x.c.off,.int .i64 x.c.n,.slice x.B x.c.b.length x.k] 55)).alloc (.cells #[.int .i64 0,.int .i64 0,.slice none 0 0] 51)=w1 at*
  obtain⟨y0,y1,y2,y3,y4,y5⟩:=CBox.cells C1.out
  obtain⟨d0,d1,d2,d3,d4⟩:=H1.out.cells
  have B1:=Lib.hid (But.of_below (q:=k.q) L1.out)
  obtain⟨n0,n1,n2⟩:=N1.out.cells
  obtain⟨f0,f1,f2⟩:=N1.out.frozen
  go_wp2_with fail
  refine bodyPost_ret_by (results_cell_row rfl _ _ (w.heap.size+1) _ _ _ _ rfl (EBox.store N1.out 1 0 none 0 0) Tryz.underlying51 rfl (by kernel_rfl)) rfl ?_
  rw[HPL.out]
  exact acted_end H0.out H1.out N1.out (by omega) B1.out (fail_ 1) none 0 (Away.nil _ _) rfl rfl
 ·have hlk:=hka e1
  clear hkn hka
  generalize actF x.c.d=fa at*
  rcases e2:decide (x.c.zone<0)
  ·have e3:decide ((k.n:Int)≤x.c.zone)=true:=by
     rcases hbad with h|h|h
     ·rw[h] at e1;cases e1
     ·have:=of_decide_eq_false e2;omega
     ·exact decide_eq_true h
   clear hbad
   go_enter Tryz.func80,Tryz.ntmps80
   go_upto_region 1 with fail
   generalize(w.alloc (.cells #[.int .i64 x.c.d,.int .i64 x.c.zone,.int .i64 x.c.epoch,.int .i64 x.c.off,.int .i64 x.c.n,.slice x.B x.c.b.length x.k] 55)).alloc (.cells #[.int .i64 0,.int .i64 0,.slice none 0 0] 51)=w1 at*
   obtain⟨y0,y1,y2,y3,y4,y5⟩:=CBox.cells C1.out
   obtain⟨d0,d1,d2,d3,d4⟩:=H1.out.cells
   go_upto_region 5 with fail
   have H2:Hid (Desk k xs w1.drew):=H1.out.below (Below.refl _ w1).drew
   have C2:Hid (CBox w1.drew w.heap.size x.c.d x.c.zone x.c.epoch x.c.off x.c.n x.B x.c.b.length x.k):=C1
   have L2:Hid (Below w.heap.size w w1.drew):=L1.out.drew
   have N2:Hid (EBox w1.drew (w.heap.size+1) 0 0 none 0 0):=N1
   clear H1 C1 L1 N1 hlk y0 y1 y2 y3 y4 y5 d0 d1 d2 d3 d4
   refine wp_region_held_drew (S:=fun W=>(W.cell? ⟨k.g,3,none⟩=some (.slice (some ⟨k.q,k.o,none⟩) k.n k.c))∧(W.cell? ⟨w.heap.size,0,none⟩=some (.int .i64 x.c.d)∧W.cell? ⟨w.heap.size,1,none⟩=some (.int .i64 x.c.zone)∧W.cell? ⟨w.heap.size,2,none⟩=some (.int .i64 x.c.epoch)∧W.cell? ⟨w.heap.size,3,none⟩=some (.int .i64 x.c.off)∧W.cell? ⟨w.heap.size,4,none⟩=some (.int .i64 x.c.n)∧W.cell? ⟨w.heap.size,5,none⟩=some (.slice x.B x.c.b.length x.k)))
    (by kernel_rfl) ⟨H2.out.cells.2.2.2.1,CBox.cells C2.out⟩ (fun hHeld=> ?_)
   generalize w1.drew=w2 at*
   refine Reg.tk 0 rfl ?_
   refine Reg.tk 1 rfl ?_
   refine Reg.tk 2 rfl ?_
   refine Reg.tk 3 rfl ?_
   refine Reg.tk 4 rfl ?_
   refine Reg.tk 5 rfl ?_
   refine Reg.tk 6 rfl ?_
   refine Reg.tk 7 rfl ?_
   refine Reg.tk 8 rfl ?_
   refine Reg.tk 9 rfl ?_
   refine wpAnyH_done (by kernel_rfl) ?_ _
   clear hHeld
   have B2:=Lib.hid (But.of_below (q:=k.q) L2.out)
   obtain⟨n0,n1,n2⟩:=N2.out.cells
   obtain⟨f0,f1,f2⟩:=N2.out.frozen
   go_wp2_with fail
   refine bodyPost_ret_by (results_cell_row rfl _ _ (w.heap.size+1) _ _ _ _ rfl (EBox.store N2.out 1 0 none 0 0) Tryz.underlying51 rfl (by kernel_rfl)) rfl ?_
   rw[HPL.out]
   exact acted_end H0.out H2.out N2.out (by omega) B2.out (fail_ 1) none 0 (Away.nil _ _) rfl rfl
  ·clear hbad
   go_enter Tryz.func80,Tryz.ntmps80
   go_upto_region 1 with fail
   generalize(w.alloc (.cells #[.int .i64 x.c.d,.int .i64 x.c.zone,.int .i64 x.c.epoch,.int .i64 x.c.off,.int .i64 x.c.n,.slice x.B x.c.b.length x.k] 55)).alloc (.cells #[.int .i64 0,.int .i64 0,.slice none 0 0] 51)=w1 at*
   obtain⟨y0,y1,y2,y3,y4,y5⟩:=CBox.cells C1.out
   obtain⟨d0,d1,d2,d3,d4⟩:=H1.out.cells
   have B1:=Lib.hid (But.of_below (q:=k.q) L1.out)
   obtain⟨n0,n1,n2⟩:=N1.out.cells
   obtain⟨f0,f1,f2⟩:=N1.out.frozen
   go_wp2_with fail
   refine bodyPost_ret_by (results_cell_row rfl _ _ (w.heap.size+1) _ _ _ _ rfl (EBox.store N1.out 1 0 none 0 0) Tryz.underlying51 rfl (by kernel_rfl)) rfl ?_
   rw[HPL.out]
   exact acted_end H0.out H1.out N1.out (by omega) B1.out (fail_ 1) none 0 (Away.nil _ _) rfl rfl
theorem do_fence {k:Dk} {xs:List Zv} {w:World} {r:Nat} {x:Cx} (h:Desk k xs w) (ha:Acts w r k.g) {i:Nat} {v:Zv} (hk:knownB x.c.d=true) (hv:xs[i]? =some v) (hzi:x.c.zone=(i:Int)) (h7:x.c.d≠7) (hep:x.c.epoch≠v.z.fc):
  Calls Tryz.prog 80 #[.pointer (some ⟨k.g,0,none⟩),cxv x,.map (some r)] w (Acted k w (stepP k.cap k.op k.ac (xs.map Zv.z) x.c)):=by
 have H0:=Lib.hid h
 have HA:=Lib.hid ha
 have hln:(xs.map Zv.z).length=k.n:=by rw[List.length_map];exact h.len
 have hlt:(i:Int)<(k.n:Int):=by have:=(List.getElem?_eq_some_iff.1 hv).1;have:=h.len;omega
 have hi0:(0:Int)≤(i:Int):=by omega
 have HV:=Lib.hid hv
 have hzd:decide ((i:Int)<0)=false:=decide_eq_false (by omega)
 have hzn:decide ((k.n:Int)≤(i:Int))=false:=decide_eq_false (by omega)
 obtain⟨L1,C1,N1⟩:=act_new w x (i:Int)
 have H1:=Lib.hid (h.below L1.out)
 have hlk:=run_lookup_act (d:=x.c.d) (ha.below L1.out) hk
 have hst:stepP k.cap k.op k.ac (xs.map Zv.z) x.c=(bif !(x.c.d==7)&& !(x.c.epoch==v.z.fc) then(xs.map Zv.z,fail_ 42) else actP k.cap k.op k.ac (xs.map Zv.z) i x.c):=by
  have hcond:(!knownB x.c.d||(decide (x.c.zone<0)||decide (((xs.map Zv.z).length:Int)≤x.c.zone)))=false:=by
   rw[hln,hk,hzi,hzd,hzn];rfl
  have hat:=atI_of hv
  unfold stepP
  rw[hcond,hzi,Int.toNat_natCast,hat]
  rfl
 have HPL:=Lib.hid (show stepP k.cap k.op k.ac (xs.map Zv.z) x.c=(xs.map Zv.z,fail_ 42) by rw[hst,beq_eq_false_iff_ne.2 h7,beq_eq_false_iff_ne.2 hep];rfl)
 have e7:(x.c.d !=7)=true:=bne_iff_ne.2 h7
 have ee:(x.c.epoch !=v.z.fc)=true:=bne_iff_ne.2 hep
 clear h ha hln hst hv h7 hep hk
 generalize actF x.c.d=fa at*
 unfold cxv
 rw[hzi]
 go_enter Tryz.func80,Tryz.ntmps80
 go_upto_region 1 with fail
 generalize(w.alloc (.cells #[.int .i64 x.c.d,.int .i64 (i:Int),.int .i64 x.c.epoch,.int .i64 x.c.off,.int .i64 x.c.n,.slice x.B x.c.b.length x.k] 55)).alloc (.cells #[.int .i64 0,.int .i64 0,.slice none 0 0] 51)=w1 at*
 obtain⟨y0,y1,y2,y3,y4,y5⟩:=CBox.cells C1.out
 obtain⟨d0,d1,d2,d3,d4⟩:=H1.out.cells
 go_upto_region 5 with fail
 have H2:Hid (Desk k xs w1.drew):=H1.out.below (Below.refl _ w1).drew
 have C2:Hid (CBox w1.drew w.heap.size x.c.d i x.c.epoch x.c.off x.c.n x.B x.c.b.length x.k):=C1
 have L2:Hid (Below w.heap.size w w1.drew):=L1.out.drew
 have N2:Hid (EBox w1.drew (w.heap.size+1) 0 0 none 0 0):=N1
 clear H1 C1 L1 N1 hlk y0 y1 y2 y3 y4 y5 d0 d1 d2 d3 d4
 refine wp_region_held_drew (S:=fun W=>(W.cell? ⟨k.g,3,none⟩=some (.slice (some ⟨k.q,k.o,none⟩) k.n k.c))∧(W.cell? ⟨w.heap.size,0,none⟩=some (.int .i64 x.c.d)∧W.cell? ⟨w.heap.size,1,none⟩=some (.int .i64 (i:Int))∧W.cell? ⟨w.heap.size,2,none⟩=some (.int .i64 x.c.epoch)∧W.cell? ⟨w.heap.size,3,none⟩=some (.int .i64 x.c.off)∧W.cell? ⟨w.heap.size,4,none⟩=some (.int .i64 x.c.n)∧W.cell? ⟨w.heap.size,5,none⟩=some (.slice x.B x.c.b.length x.k)))
  (by kernel_rfl) ⟨H2.out.cells.2.2.2.1,CBox.cells C2.out⟩ (fun hHeld=> ?_)
 generalize w1.drew=w2 at*
 refine Reg.tk 0 rfl ?_
 refine Reg.tk 1 rfl ?_
 refine Reg.tk 2 rfl ?_
 refine Reg.tk 3 rfl ?_
 refine Reg.tk 4 rfl ?_
 refine Reg.tk 5 rfl ?_
 refine Reg.tk 6 rfl ?_
 refine Reg.tk 7 rfl ?_
 refine Reg.tk 8 rfl ?_
 refine Reg.tk 9 rfl ?_
 refine wpAnyH_done (by kernel_rfl) ?_ _
 clear hHeld
 go_upto_region 7 with fail
 have H3:Hid (Desk k xs w2.drew):=H2.out.below (Below.refl _ w2).drew
 have C3:Hid (CBox w2.drew w.heap.size x.c.d i x.c.epoch x.c.off x.c.n x.B x.c.b.length x.k):=C2
 have L3:Hid (Below w.heap.size w w2.drew):=L2.out.drew
 have N3:Hid (EBox w2.drew (w.heap.size+1) 0 0 none 0 0):=N2
 clear H2 C2 L2 N2
 refine wp_region_held_drew (S:=fun W=>(W.cell? ⟨k.g,3,none⟩=some (.slice (some ⟨k.q,k.o,none⟩) k.n k.c))∧(W.cell? ⟨w.heap.size,0,none⟩=some (.int .i64 x.c.d)∧W.cell? ⟨w.heap.size,1,none⟩=some (.int .i64 (i:Int))∧W.cell? ⟨w.heap.size,2,none⟩=some (.int .i64 x.c.epoch)∧W.cell? ⟨w.heap.size,3,none⟩=some (.int .i64 x.c.off)∧W.cell? ⟨w.heap.size,4,none⟩=some (.int .i64 x.c.n)∧W.cell? ⟨w.heap.size,5,none⟩=some (.slice x.B x.c.b.length x.k))∧(W.cell? ⟨k.q,k.o+i*3,none⟩=some (.int .i64 v.z.st)∧W.cell? ⟨k.q,k.o+i*3+1,none⟩=some (.int .i64 v.z.fc)∧W.cell? ⟨k.q,k.o+i*3+2,none⟩=some (.slice v.D v.z.data.length v.c)))
  (by kernel_rfl) ⟨H3.out.cells.2.2.2.1,CBox.cells C3.out,H3.out.elem HV.out⟩ (fun hHeld=> ?_)
 generalize w2.drew=w3 at*
 refine Reg.tk 0 rfl ?_
 refine Reg.tk 1 rfl ?_
 refine Reg.tk 2 rfl ?_
 refine Reg.tk 3 rfl ?_
 refine Reg.tk 4 rfl ?_
 refine Reg.tk 5 rfl ?_
 refine Reg.tk 6 rfl ?_
 refine Reg.tk 7 rfl ?_
 refine Reg.tk 8 rfl ?_
 refine Reg.tk 9 rfl ?_
 refine Reg.tk 10 rfl ?_
 refine Reg.tk 11 rfl ?_
 refine Reg.tk 12 rfl ?_
 refine Reg.tk 13 rfl ?_
 refine Reg.tk 14 rfl ?_
 refine Reg.tk 15 rfl ?_
 refine Reg.tk 16 rfl ?_
 refine Reg.tk 17 rfl ?_
 refine Reg.tk 18 rfl ?_
 refine wpAnyH_done (by kernel_rfl) ?_ _
 clear hHeld
 have B3:=Lib.hid (But.of_below (q:=k.q) L3.out)
 obtain⟨n0,n1,n2⟩:=N3.out.cells
 obtain⟨f0,f1,f2⟩:=N3.out.frozen
 go_wp2_with fail
 refine bodyPost_ret_by (results_cell_row rfl _ _ (w.heap.size+1) _ _ _ _ rfl (EBox.store N3.out 42 0 none 0 0) Tryz.underlying51 rfl (by kernel_rfl)) rfl ?_
 rw[HPL.out]
 exact acted_end H0.out H3.out N3.out (by omega) B3.out (fail_ 42) none 0 (Away.nil _ _) rfl rfl
end Zns
end
section
open Go.RowKit Mem Zon
namespace Zns
theorem do_add {k:Dk} {xs:List Zv} {w:World} {r:Nat} {x:Cx} (h:Desk k xs w) (ha:Acts w r k.g) {i:Nat} {v:Zv} (hc:CmdAt w x) (hd:x.c.d=1) (hv:xs[i]? =some v) (hzi:x.c.zone=(i:Int)) (hep:x.c.epoch=v.z.fc):
  Calls Tryz.prog 80 #[.pointer (some ⟨k.g,0,none⟩),cxv x,.map (some r)] w (Acted k w (stepP k.cap k.op k.ac (xs.map Zv.z) x.c)):=by
 have hk:knownB x.c.d=true:=by rw[hd];decide
 have H0:=Lib.hid h
 have HA:=Lib.hid ha
 have hln:(xs.map Zv.z).length=k.n:=by rw[List.length_map];exact h.len
 have hlt:(i:Int)<(k.n:Int):=by have:=(List.getElem?_eq_some_iff.1 hv).1;have:=h.len;omega
 have hi0:(0:Int)≤(i:Int):=by omega
 have HV:=Lib.hid hv
 have hzd:decide ((i:Int)<0)=false:=decide_eq_false (by omega)
 have hzn:decide ((k.n:Int)≤(i:Int))=false:=decide_eq_false (by omega)
 obtain⟨L1,C1,N1⟩:=act_new w x (i:Int)
 have H1:=Lib.hid (h.below L1.out)
 have hlk:=run_lookup_act (d:=x.c.d) (ha.below L1.out) hk
 have hst:stepP k.cap k.op k.ac (xs.map Zv.z) x.c=(bif !(x.c.d==7)&& !(x.c.epoch==v.z.fc) then(xs.map Zv.z,fail_ 42) else actP k.cap k.op k.ac (xs.map Zv.z) i x.c):=by
  have hcond:(!knownB x.c.d||(decide (x.c.zone<0)||decide (((xs.map Zv.z).length:Int)≤x.c.zone)))=false:=by
   rw[hln,hk,hzi,hzd,hzn];rfl
  have hat:=atI_of hv
  unfold stepP
  rw[hcond,hzi,Int.toNat_natCast,hat]
  rfl
 have HPL:=Lib.hid (show actP k.cap k.op k.ac (xs.map Zv.z) i x.c=stepP k.cap k.op k.ac (xs.map Zv.z) x.c by rw[hst,hd,hep,beq_self_eq_true];simp)
 have HPA:=Lib.hid (show actP k.cap k.op k.ac (xs.map Zv.z) i x.c=addP k.cap k.op k.ac (xs.map Zv.z) i x.c by unfold actP;rw[hd];rfl)
 have HD:=fun w (h:Desk k xs w) (hc:CmdAt w x)=>Lib.hid (add_act (x:=x) h hv hc hzi)
 have HCM:=Lib.hid hc
 have hfa:actF x.c.d=110:=by rw[hd];rfl
 rw[hfa] at hlk
 have e7:(x.c.d !=7)=true:=by rw[hd];decide
 have ee:(x.c.epoch !=v.z.fc)=false:=by rw[hep];simp
 rw[←HPL.out,HPA.out]
 clear h ha hln hst hv hk hc hfa hd hep
 generalize addP k.cap k.op k.ac (xs.map Zv.z) i x.c=rr at*
 unfold cxv Acted at*
 rw[hzi] at HD ⊢
 go_enter Tryz.func80,Tryz.ntmps80
 go_upto_region 1 with fail
 generalize(w.alloc (.cells #[.int .i64 x.c.d,.int .i64 (i:Int),.int .i64 x.c.epoch,.int .i64 x.c.off,.int .i64 x.c.n,.slice x.B x.c.b.length x.k] 55)).alloc (.cells #[.int .i64 0,.int .i64 0,.slice none 0 0] 51)=w1 at*
 obtain⟨y0,y1,y2,y3,y4,y5⟩:=CBox.cells C1.out
 obtain⟨d0,d1,d2,d3,d4⟩:=H1.out.cells
 go_upto_region 5 with fail
 have H2:Hid (Desk k xs w1.drew):=H1.out.below (Below.refl _ w1).drew
 have C2:Hid (CBox w1.drew w.heap.size x.c.d i x.c.epoch x.c.off x.c.n x.B x.c.b.length x.k):=C1
 have L2:Hid (Below w.heap.size w w1.drew):=L1.out.drew
 have N2:Hid (EBox w1.drew (w.heap.size+1) 0 0 none 0 0):=N1
 clear H1 C1 L1 N1 hlk y0 y1 y2 y3 y4 y5 d0 d1 d2 d3 d4
 refine wp_region_held_drew (S:=fun W=>(W.cell? ⟨k.g,3,none⟩=some (.slice (some ⟨k.q,k.o,none⟩) k.n k.c))∧(W.cell? ⟨w.heap.size,0,none⟩=some (.int .i64 x.c.d)∧W.cell? ⟨w.heap.size,1,none⟩=some (.int .i64 (i:Int))∧W.cell? ⟨w.heap.size,2,none⟩=some (.int .i64 x.c.epoch)∧W.cell? ⟨w.heap.size,3,none⟩=some (.int .i64 x.c.off)∧W.cell? ⟨w.heap.size,4,none⟩=some (.int .i64 x.c.n)∧W.cell? ⟨w.heap.size,5,none⟩=some (.slice x.B x.c.b.length x.k)))
  (by kernel_rfl) ⟨H2.out.cells.2.2.2.1,CBox.cells C2.out⟩ (fun hHeld=> ?_)
 generalize w1.drew=w2 at*
 refine Reg.tk 0 rfl ?_
 refine Reg.tk 1 rfl ?_
 refine Reg.tk 2 rfl ?_
 refine Reg.tk 3 rfl ?_
 refine Reg.tk 4 rfl ?_
 refine Reg.tk 5 rfl ?_
 refine Reg.tk 6 rfl ?_
 refine Reg.tk 7 rfl ?_
 refine Reg.tk 8 rfl ?_
 refine Reg.tk 9 rfl ?_
 refine wpAnyH_done (by kernel_rfl) ?_ _
 clear hHeld
 go_upto_region 7 with fail
 have H3:Hid (Desk k xs w2.drew):=H2.out.below (Below.refl _ w2).drew
 have C3:Hid (CBox w2.drew w.heap.size x.c.d i x.c.epoch x.c.off x.c.n x.B x.c.b.length x.k):=C2
 have L3:Hid (Below w.heap.size w w2.drew):=L2.out.drew
 have N3:Hid (EBox w2.drew (w.heap.size+1) 0 0 none 0 0):=N2
 clear H2 C2 L2 N2
 refine wp_region_held_drew (S:=fun W=>(W.cell? ⟨k.g,3,none⟩=some (.slice (some ⟨k.q,k.o,none⟩) k.n k.c))∧(W.cell? ⟨w.heap.size,0,none⟩=some (.int .i64 x.c.d)∧W.cell? ⟨w.heap.size,1,none⟩=some (.int .i64 (i:Int))∧W.cell? ⟨w.heap.size,2,none⟩=some (.int .i64 x.c.epoch)∧W.cell? ⟨w.heap.size,3,none⟩=some (.int .i64 x.c.off)∧W.cell? ⟨w.heap.size,4,none⟩=some (.int .i64 x.c.n)∧W.cell? ⟨w.heap.size,5,none⟩=some (.slice x.B x.c.b.length x.k))∧(W.cell? ⟨k.q,k.o+i*3,none⟩=some (.int .i64 v.z.st)∧W.cell? ⟨k.q,k.o+i*3+1,none⟩=some (.int .i64 v.z.fc)∧W.cell? ⟨k.q,k.o+i*3+2,none⟩=some (.slice v.D v.z.data.length v.c)))
  (by kernel_rfl) ⟨H3.out.cells.2.2.2.1,CBox.cells C3.out,H3.out.elem HV.out⟩ (fun hHeld=> ?_)
 generalize w2.drew=w3 at*
 refine Reg.tk 0 rfl ?_
 refine Reg.tk 1 rfl ?_
 refine Reg.tk 2 rfl ?_
 refine Reg.tk 3 rfl ?_
 refine Reg.tk 4 rfl ?_
 refine Reg.tk 5 rfl ?_
 refine Reg.tk 6 rfl ?_
 refine Reg.tk 7 rfl ?_
 refine Reg.tk 8 rfl ?_
 refine Reg.tk 9 rfl ?_
 refine Reg.tk 10 rfl ?_
 refine Reg.tk 11 rfl ?_
 refine Reg.tk 12 rfl ?_
 refine Reg.tk 13 rfl ?_
 refine Reg.tk 14 rfl ?_
 refine Reg.tk 15 rfl ?_
 refine Reg.tk 16 rfl ?_
 refine Reg.tk 17 rfl ?_
 refine Reg.tk 18 rfl ?_
 refine wpAnyH_done (by kernel_rfl) ?_ _
 clear hHeld
 obtain⟨y0,y1,y2,y3,y4,y5⟩:=CBox.cells C3.out
 go_wp2_with fail
 refine(HD w3 H3.out (HCM.out.below L3.out)).out.mono ?_
 rintro e w4 ⟨xs',B,d,rfl,hD,hz,hr,hB⟩
 have N4:=Lib.hid (EBox.but N3.out hB (by have:=H0.out.q_lt;omega))
 have D4:=Lib.hid hD
 have Q4:=Lib.hid hr
 have B4:=Lib.hid (But.trans (But.of_below (q:=k.q) L3.out) hB)
 have M4:=Lib.hid hz
 clear hB hD hr hz y0 y1 y2 y3 y4 y5 HD
 obtain⟨n0,n1,n2⟩:=N4.out.cells
 obtain⟨f0,f1,f2⟩:=N4.out.frozen
 go_wp2_with fail
 refine bodyPost_ret_by (results_cell_row rfl _ _ (w.heap.size+1) _ _ _ _ rfl (EBox.store N4.out _ _ B _ d) Tryz.underlying51 rfl (by kernel_rfl)) rfl ?_
 exact acted_end H0.out D4.out N4.out (by omega) B4.out _ B d Q4.out M4.out rfl
theorem do_tear {k:Dk} {xs:List Zv} {w:World} {r:Nat} {x:Cx} (h:Desk k xs w) (ha:Acts w r k.g) {i:Nat} {v:Zv} (hc:CmdAt w x) (hd:x.c.d=8) (hv:xs[i]? =some v) (hzi:x.c.zone=(i:Int)) (hep:x.c.epoch=v.z.fc):
  Calls Tryz.prog 80 #[.pointer (some ⟨k.g,0,none⟩),cxv x,.map (some r)] w (Acted k w (stepP k.cap k.op k.ac (xs.map Zv.z) x.c)):=by
 have hk:knownB x.c.d=true:=by rw[hd];decide
 have H0:=Lib.hid h
 have HA:=Lib.hid ha
 have hln:(xs.map Zv.z).length=k.n:=by rw[List.length_map];exact h.len
 have hlt:(i:Int)<(k.n:Int):=by have:=(List.getElem?_eq_some_iff.1 hv).1;have:=h.len;omega
 have hi0:(0:Int)≤(i:Int):=by omega
 have HV:=Lib.hid hv
 have hzd:decide ((i:Int)<0)=false:=decide_eq_false (by omega)
 have hzn:decide ((k.n:Int)≤(i:Int))=false:=decide_eq_false (by omega)
 obtain⟨L1,C1,N1⟩:=act_new w x (i:Int)
 have H1:=Lib.hid (h.below L1.out)
 have hlk:=run_lookup_act (d:=x.c.d) (ha.below L1.out) hk
 have hst:stepP k.cap k.op k.ac (xs.map Zv.z) x.c=(bif !(x.c.d==7)&& !(x.c.epoch==v.z.fc) then(xs.map Zv.z,fail_ 42) else actP k.cap k.op k.ac (xs.map Zv.z) i x.c):=by
  have hcond:(!knownB x.c.d||(decide (x.c.zone<0)||decide (((xs.map Zv.z).length:Int)≤x.c.zone)))=false:=by
   rw[hln,hk,hzi,hzd,hzn];rfl
  have hat:=atI_of hv
  unfold stepP
  rw[hcond,hzi,Int.toNat_natCast,hat]
  rfl
 have HPL:=Lib.hid (show actP k.cap k.op k.ac (xs.map Zv.z) i x.c=stepP k.cap k.op k.ac (xs.map Zv.z) x.c by rw[hst,hd,hep,beq_self_eq_true];simp)
 have HPA:=Lib.hid (show actP k.cap k.op k.ac (xs.map Zv.z) i x.c=tearP k.cap k.op k.ac (xs.map Zv.z) i x.c by unfold actP;rw[hd];rfl)
 have HD:=fun w (h:Desk k xs w) (hc:CmdAt w x)=>Lib.hid (tear_act (x:=x) h hv hc hzi)
 have HCM:=Lib.hid hc
 have hfa:actF x.c.d=111:=by rw[hd];rfl
 rw[hfa] at hlk
 have e7:(x.c.d !=7)=true:=by rw[hd];decide
 have ee:(x.c.epoch !=v.z.fc)=false:=by rw[hep];simp
 rw[←HPL.out,HPA.out]
 clear h ha hln hst hv hk hc hfa hd hep
 generalize tearP k.cap k.op k.ac (xs.map Zv.z) i x.c=rr at*
 unfold cxv Acted at*
 rw[hzi] at HD ⊢
 go_enter Tryz.func80,Tryz.ntmps80
 go_upto_region 1 with fail
 generalize(w.alloc (.cells #[.int .i64 x.c.d,.int .i64 (i:Int),.int .i64 x.c.epoch,.int .i64 x.c.off,.int .i64 x.c.n,.slice x.B x.c.b.length x.k] 55)).alloc (.cells #[.int .i64 0,.int .i64 0,.slice none 0 0] 51)=w1 at*
 obtain⟨y0,y1,y2,y3,y4,y5⟩:=CBox.cells C1.out
 obtain⟨d0,d1,d2,d3,d4⟩:=H1.out.cells
 go_upto_region 5 with fail
 have H2:Hid (Desk k xs w1.drew):=H1.out.below (Below.refl _ w1).drew
 have C2:Hid (CBox w1.drew w.heap.size x.c.d i x.c.epoch x.c.off x.c.n x.B x.c.b.length x.k):=C1
 have L2:Hid (Below w.heap.size w w1.drew):=L1.out.drew
 have N2:Hid (EBox w1.drew (w.heap.size+1) 0 0 none 0 0):=N1
 clear H1 C1 L1 N1 hlk y0 y1 y2 y3 y4 y5 d0 d1 d2 d3 d4
 refine wp_region_held_drew (S:=fun W=>(W.cell? ⟨k.g,3,none⟩=some (.slice (some ⟨k.q,k.o,none⟩) k.n k.c))∧(W.cell? ⟨w.heap.size,0,none⟩=some (.int .i64 x.c.d)∧W.cell? ⟨w.heap.size,1,none⟩=some (.int .i64 (i:Int))∧W.cell? ⟨w.heap.size,2,none⟩=some (.int .i64 x.c.epoch)∧W.cell? ⟨w.heap.size,3,none⟩=some (.int .i64 x.c.off)∧W.cell? ⟨w.heap.size,4,none⟩=some (.int .i64 x.c.n)∧W.cell? ⟨w.heap.size,5,none⟩=some (.slice x.B x.c.b.length x.k)))
  (by kernel_rfl) ⟨H2.out.cells.2.2.2.1,CBox.cells C2.out⟩ (fun hHeld=> ?_)
 generalize w1.drew=w2 at*
 refine Reg.tk 0 rfl ?_
 refine Reg.tk 1 rfl ?_
 refine Reg.tk 2 rfl ?_
 refine Reg.tk 3 rfl ?_
 refine Reg.tk 4 rfl ?_
 refine Reg.tk 5 rfl ?_
 refine Reg.tk 6 rfl ?_
 refine Reg.tk 7 rfl ?_
 refine Reg.tk 8 rfl ?_
 refine Reg.tk 9 rfl ?_
 refine wpAnyH_done (by kernel_rfl) ?_ _
 clear hHeld
 go_upto_region 7 with fail
 have H3:Hid (Desk k xs w2.drew):=H2.out.below (Below.refl _ w2).drew
 have C3:Hid (CBox w2.drew w.heap.size x.c.d i x.c.epoch x.c.off x.c.n x.B x.c.b.length x.k):=C2
 have L3:Hid (Below w.heap.size w w2.drew):=L2.out.drew
 have N3:Hid (EBox w2.drew (w.heap.size+1) 0 0 none 0 0):=N2
 clear H2 C2 L2 N2
 refine wp_region_held_drew (S:=fun W=>(W.cell? ⟨k.g,3,none⟩=some (.slice (some ⟨k.q,k.o,none⟩) k.n k.c))∧(W.cell? ⟨w.heap.size,0,none⟩=some (.int .i64 x.c.d)∧W.cell? ⟨w.heap.size,1,none⟩=some (.int .i64 (i:Int))∧W.cell? ⟨w.heap.size,2,none⟩=some (.int .i64 x.c.epoch)∧W.cell? ⟨w.heap.size,3,none⟩=some (.int .i64 x.c.off)∧W.cell? ⟨w.heap.size,4,none⟩=some (.int .i64 x.c.n)∧W.cell? ⟨w.heap.size,5,none⟩=some (.slice x.B x.c.b.length x.k))∧(W.cell? ⟨k.q,k.o+i*3,none⟩=some (.int .i64 v.z.st)∧W.cell? ⟨k.q,k.o+i*3+1,none⟩=some (.int .i64 v.z.fc)∧W.cell? ⟨k.q,k.o+i*3+2,none⟩=some (.slice v.D v.z.data.length v.c)))
  (by kernel_rfl) ⟨H3.out.cells.2.2.2.1,CBox.cells C3.out,H3.out.elem HV.out⟩ (fun hHeld=> ?_)
 generalize w2.drew=w3 at*
 refine Reg.tk 0 rfl ?_
 refine Reg.tk 1 rfl ?_
 refine Reg.tk 2 rfl ?_
 refine Reg.tk 3 rfl ?_
 refine Reg.tk 4 rfl ?_
 refine Reg.tk 5 rfl ?_
 refine Reg.tk 6 rfl ?_
 refine Reg.tk 7 rfl ?_
 refine Reg.tk 8 rfl ?_
 refine Reg.tk 9 rfl ?_
 refine Reg.tk 10 rfl ?_
 refine Reg.tk 11 rfl ?_
 refine Reg.tk 12 rfl ?_
 refine Reg.tk 13 rfl ?_
 refine Reg.tk 14 rfl ?_
 refine Reg.tk 15 rfl ?_
 refine Reg.tk 16 rfl ?_
 refine Reg.tk 17 rfl ?_
 refine Reg.tk 18 rfl ?_
 refine wpAnyH_done (by kernel_rfl) ?_ _
 clear hHeld
 obtain⟨y0,y1,y2,y3,y4,y5⟩:=CBox.cells C3.out
 go_wp2_with fail
 refine(HD w3 H3.out (HCM.out.below L3.out)).out.mono ?_
 rintro e w4 ⟨xs',B,d,rfl,hD,hz,hr,hB⟩
 have N4:=Lib.hid (EBox.but N3.out hB (by have:=H0.out.q_lt;omega))
 have D4:=Lib.hid hD
 have Q4:=Lib.hid hr
 have B4:=Lib.hid (But.trans (But.of_below (q:=k.q) L3.out) hB)
 have M4:=Lib.hid hz
 clear hB hD hr hz y0 y1 y2 y3 y4 y5 HD
 obtain⟨n0,n1,n2⟩:=N4.out.cells
 obtain⟨f0,f1,f2⟩:=N4.out.frozen
 go_wp2_with fail
 refine bodyPost_ret_by (results_cell_row rfl _ _ (w.heap.size+1) _ _ _ _ rfl (EBox.store N4.out _ _ B _ d) Tryz.underlying51 rfl (by kernel_rfl)) rfl ?_
 exact acted_end H0.out D4.out N4.out (by omega) B4.out _ B d Q4.out M4.out rfl
end Zns
end
section
open Go.RowKit Mem Zon
namespace Zns
end Zns
end
section
open Go.RowKit Mem Zon
namespace Zns
def DoesB (x:Cx):Prop:=∀(k:Dk) (xs:List Zv) (w:World) (r:Nat),Desk k xs w→Acts w r k.g→CmdAt w x→Calls Tryz.prog 80 #[.pointer (some ⟨k.g,0,none⟩),cxv x,.map (some r)] w (Acted k w (stepP k.cap k.op k.ac (xs.map Zv.z) x.c))
theorem does_one {x:Cx} (hd:x.c.d=1∨(x.c.d=8∧∀(k:Dk) (xs:List Zv) (w:World) (r i:Nat) (v:Zv),Desk k xs w→Acts w r k.g→CmdAt w x→xs[i]? =some v→x.c.zone=(i:Int)→x.c.epoch=v.z.fc→Calls Tryz.prog 80 #[.pointer (some ⟨k.g,0,none⟩),cxv x,.map (some r)] w (Acted k w (stepP k.cap k.op k.ac (xs.map Zv.z) x.c)))):DoesB x:=by
 intro k xs w r h ha hc
 have hk:knownB x.c.d=true:=by rcases hd with e|⟨e,-⟩<;>rw[e]<;>rfl
 have h7:x.c.d≠7:=by rcases hd with e|⟨e,-⟩<;>omega
 by_cases h0:x.c.zone<0
 ·exact do_arg h ha (.inr (.inl h0))
 ·by_cases h1:(k.n:Int)≤x.c.zone
  ·exact do_arg h ha (.inr (.inr h1))
  ·obtain⟨i,hzi⟩:∃i:Nat,x.c.zone=(i:Int):=⟨x.c.zone.toNat,by omega⟩
   obtain⟨v,hv⟩:=h.get (i:=i) (by omega)
   by_cases hep:x.c.epoch=v.z.fc
   ·rcases hd with e|⟨e,ht⟩
    ·exact do_add h ha hc e hv hzi hep
    ·exact ht k xs w r i v h ha hc hv hzi hep
   ·exact do_fence h ha hk hv hzi h7 hep
theorem does_add {x:Cx} (hd:x.c.d=1):DoesB x:=does_one (.inl hd)
theorem does_tear {x:Cx} (hd:x.c.d=8):DoesB x:=does_one (.inr ⟨hd,fun _ _ _ _ _ _ h ha hc hv hzi hep=>do_tear h ha hc hd hv hzi hep⟩)
def stepsP (cap op ac:Int) (zs:List Zn) (l:List Cm):List Zn × List Dn:=
 l.foldl (fun s c=>((stepP cap op ac s.1 c).1,s.2++ [(stepP cap op ac s.1 c).2])) (zs,[])
theorem stepsP_snoc (cap op ac:Int) (zs:List Zn) (l:List Cm) (c:Cm):
  stepsP cap op ac zs (l++ [c])=((stepP cap op ac (stepsP cap op ac zs l).1 c).1,(stepsP cap op ac zs l).2++ [(stepP cap op ac (stepsP cap op ac zs l).1 c).2]):=by
 unfold stepsP
 rw[List.foldl_append]
 rfl
def runP (d:Dv) (l:List Cm):Dv × List Dn:=
 bif okD d then(⟨d.cap,d.op,d.ac,(stepsP d.cap d.op d.ac d.zs l).1⟩,(stepsP d.cap d.op d.ac d.zs l).2) else(d,l.map fun _=>fail_ 1)
end Zns
end
section
open Go.RowKit Mem Zon
namespace Zns
theorem flat_len (xs:List Zv):(xs.flatMap cellsZ).length=xs.length*3:=by
 induction xs with
 |nil=>rfl
 |cons x xs ih=>rw[List.flatMap_cons,List.length_append,ih,List.length_cons];show 3+_=_;omega
theorem flat_get:∀(xs:List Zv) (i r:Nat),r<3→(xs.flatMap cellsZ)[i*3+r]? =(xs[i]?).bind fun x=>(cellsZ x)[r]?
 | [],i,r,_=>by simp
 |x::xs,0,r,hr=>by
  rw[List.flatMap_cons,List.getElem?_append_left (by show _<3;omega)]
  simp
 |x::xs,i+1,r,hr=>by
  rw[List.flatMap_cons,List.getElem?_append_right (by show 3≤_;omega)]
  have:(i+1)*3+r-(cellsZ x).length=i*3+r:=by show _-3=_;omega
  rw[this,flat_get xs i r hr]
  simp
theorem info_zone:(Tryz.prog.info? 46).map (fun i=>(i.zero,i.size,i.bytes))=some (some (.agg #[.int .i64 0,.int .i64 0,.slice none 0 0]),3,40):=by kernel_rfl
theorem run_eql_nilZ (w:World) (A:Option Addr) (n c:Nat):(binOp .eql 24 (.slice A n c) (.slice none 0 0)).run Tryz.prog w= .ok (.bool A.isNone) w:=
 Go.run_eql_slice_nil w _ _ A n c Tryz.underlying24
def GaveL (w:World) (n:Nat) (xs:List Zv) (en:Ending) (w':World):Prop:=
 ∃A c,en= .returned (.slice A n c)∧RowS cellsZ 3 w' A n c xs∧Below w.heap.size w w'∧(0<n→∃q,A=some ⟨q,0,none⟩∧w.heap.size≤q∧OwnZ w' q 0 xs)
theorem gaveL_of {w w':World} {n:Nat} {xs:List Zv} {A:Option Addr} {c:Nat} (hl:xs.length=n) (hn:n≤1000) (h:w'.ownsRow w.heap.size 46 3 (.slice A n c) n (xs.flatMap cellsZ)) (hb:Below w.heap.size w w'):GaveL w n xs (.returned (.slice A n c)) w':=by
 rcases h.2 with⟨e1,e2⟩|⟨q,cap,cur,e1,hq,hh,hnc,hcm,hs,ht⟩
 ·injection e1 with e1 e3 e4
  subst e1 e4 e2
  obtain rfl:xs= []:=List.eq_nil_of_length_eq_zero hl
  exact⟨none,0,rfl,RowS.nil _ _ _,hb,fun h=>by omega⟩
 ·injection e1 with e1 e3 e4
  subst e1 e4
  have hcs:∀i x,xs[i]? =some x→∀j u,(cellsZ x)[j]? =some u→cur[0+i*3+j]? =some u:=by
   intro i x hx j u hu
   have hj:j<3:=by have:=(List.getElem?_eq_some_iff.1 hu).1;simpa [cellsZ] using this
   have hil:i<xs.length:=(List.getElem?_eq_some_iff.1 hx).1
   have h1:=flat_get xs i j hj
   rw[hx] at h1
   simp only[Option.bind_some] at h1
   rw[hu,←ht,List.getElem?_take] at h1
   split at h1
   ·rw[Nat.zero_add];simpa using h1
   ·cases h1
  have ho:OwnZ w' q 0 xs:=⟨cur,hh,hcs⟩
  refine⟨_,c,rfl,⟨hl,hnc,by omega,fun _=>⟨q,0,rfl,ho.lt,fun i x hx j u hu=>ho.cell hx hu⟩⟩,hb,fun _=>⟨q,rfl,hq,ho⟩⟩
theorem cloneZ_any {A:Option Addr} {n c:Nat} {xs:List Zv} {w:World} (h:RowS cellsZ 3 w A n c xs) (hn:n≤1000):
  Calls Tryz.prog 109 #[.slice A n c] w (GaveL w n xs):=by
 have HR:=Lib.hid h
 have hl:=h.len
 have hq:=fun w=>run_eql_nilZ w A n c
 have hat:=h.at_
 clear h
 rcases A with _|a
 ·have hn0:n=0:=by
    rcases Nat.eq_zero_or_pos n with h0|h0
    ·exact h0
    ·obtain⟨b,o,e,-⟩:=hat h0
     cases e
  subst hn0
  obtain rfl:xs= []:=List.eq_nil_of_length_eq_zero hl
  have hd:(none:Option Addr).isNone=true:=rfl
  rw[hd] at hq
  clear hat
  go_enter Tryz.func109,Tryz.ntmps109
  go_wp2
  go_ret
  exact⟨none,0,rfl,RowS.nil _ _ _,Below.refl _ _,fun h=>by omega⟩
 ·have hd:(some a).isNone=false:=rfl
  rw[hd] at hq
  have HC:Hid (∀W:World,Below w.heap.size w W→∀j u,(xs.flatMap cellsZ)[j]? =some u→W.cell? (a.add j)=some u):=by
   show ∀_,_
   intro W hW j u hu
   have hjl:j<xs.length*3:=by have:=(List.getElem?_eq_some_iff.1 hu).1;rwa [flat_len] at this
   have hj:j=(j/3)*3+j%3:=by omega
   rw[hj,flat_get xs (j/3) (j%3) (by omega)] at hu
   obtain⟨x,hx,hu⟩:=Option.bind_eq_some_iff.1 hu
   obtain⟨b,o,e,hb,hc⟩:=HR.out.elem hx
   injection e with e
   subst e
   rw[add_none]
   have:=hc W (hW.block b hb) (j%3) u hu
   rwa [Nat.add_assoc,←hj] at this
  have HM:Hid ((w.alloc (.cells #[] 46)).ownsRow w.heap.size 46 3 (.slice (some ⟨w.heap.size,0,none⟩) 0 0) 0 []):=
   ⟨rfl,.inr ⟨w.heap.size,0,#[],rfl,Nat.le_refl _,heap_alloc_new w _,Nat.le_refl _,by decide,rfl,rfl⟩⟩
  have H1:Hid (∀u∈xs.flatMap cellsZ,u.oneCell'=true):=by
   show ∀_,_
   intro u hu
   obtain⟨x,-,hu⟩:=List.mem_flatMap.1 hu
   simp only[cellsZ,List.mem_cons,List.not_mem_nil,or_false] at hu
   rcases hu with rfl|rfl|rfl<;>rfl
  have HFL:Hid ((xs.flatMap cellsZ).length=n*3):=by show _=_;rw[flat_len,hl]
  have HL:=Lib.hid hl
  clear hat hl
  go_enter Tryz.func109,Tryz.ntmps109
  go_wp2_with (at_builtin
               refine wpList_append_wide Tryz.underlying24 info_zone rfl (by omega) rfl (.tmp 5) (.tmp 6) rfl rfl w.heap.size _ 0 [] rfl HM.out a n c (xs.flatMap cellsZ) rfl HFL.out (HC.out _ ((Below.refl _ w).alloc (Nat.le_refl _) _)) H1.out (by omega) (by omega) (by simp) ?_
               intro A' c' w' hown' hb' _
               have O:=Lib.hid (show w'.ownsRow w.heap.size 46 3 (.slice A' n c') n (xs.flatMap cellsZ) by simpa using hown')
               have B:=Lib.hid hb'
               clear hown' hb')
  go_ret
  exact gaveL_of HL.out hn O.out (((Below.refl _ w).alloc (Nat.le_refl _) _).trans B.out)
end Zns
end
section
open Go.RowKit Mem Zon
namespace Zns
def KBox (w:World) (g:Nat) (cap op ac:Int) (A:Option Addr) (n c:Nat) (m:Bool):Prop:=Cells w g 151 #[.int .i64 cap,.int .i64 op,.int .i64 ac,.slice A n c,.bool m]
structure Pre (w:World) (g q o:Nat) (cap op ac:Int) (n c:Nat) (m:Bool) (xs:List Zv):Prop where
 box:KBox w g cap op ac (some ⟨q,o,none⟩) n c m
 own:OwnZ w q o xs
 len:xs.length=n
 data:∀x∈xs,Row cb w x.D x.z.data.length x.c x.z.data
 ne:g≠q
section
variable {w w':World} {g q o:Nat} {cap op ac:Int} {n c:Nat} {m:Bool} {xs:List Zv}
theorem Pre.below (h:Pre w g q o cap op ac n c m xs) (hb:Below w.heap.size w w'):Pre w' g q o cap op ac n c m xs:=
 ⟨Cells.below h.box hb,h.own.below hb,h.len,fun x hx=>(h.data x hx).below hb,h.ne⟩
theorem Pre.slice (h:Pre w g q o cap op ac n c m xs):w.cell? ⟨g,3,none⟩=some (.slice (some ⟨q,o,none⟩) n c):=Cells.cell h.box 3
theorem Pre.set1 (h:Pre w g q o cap op ac n c m xs) {i j:Nat} {x x':Zv} {u v:Value} (hx:xs[i]? =some x) (hj:j<3) (hu:(cellsZ x)[j]? =some u) (hn:∀y,u≠cb y) (hc:cellsZ x'=(cellsZ x).set j v)
  (hr:Row cb (w.setCell ⟨q,o+i*3+j,none⟩ v) x'.D x'.z.data.length x'.c x'.z.data):Pre (w.setCell ⟨q,o+i*3+j,none⟩ v) g q o cap op ac n c m (xs.set i x'):=by
 refine⟨Cells.set_other h.box (fun e=>h.ne e.symm) _ _,h.own.set1 hx hj hc,by rw[List.length_set];exact h.len,fun y hy=> ?_,h.ne⟩
 rcases set_mem hy with hy|rfl
 ·exact Row.setNot (h.data y hy) (h.own.cell hx hu) hn v
 ·exact hr
end
theorem set_same {l:List Zn} {i:Nat} {z:Zn} (h:l[i]? =some z):l.set i z=l:=by
 apply List.ext_getElem?
 intro j
 rw[List.getElem?_set]
 split
 ·rename_i e;subst e;split
  ·exact h.symm
  ·rename_i hl;have:=(List.getElem?_eq_some_iff.1 h).1;omega
 ·rfl
def Made (w:World) (d:Dx) (en:Ending) (w':World):Prop:=
 ∃g A c xs',en= .returned (.pointer (some ⟨g,0,none⟩))∧w.heap.size≤g∧KBox w' g d.cap d.op d.ac A d.n c (okD d.p)∧RowS cellsZ 3 w' A d.n c xs'∧(∀x∈xs',Row cb w' x.D x.z.data.length x.c x.z.data)∧xs'.map Zv.z=d.xs.map Zv.z∧
  Below w.heap.size w w'∧(0<d.n→∃q o,A=some ⟨q,o,none⟩∧w.heap.size≤q∧g≠q∧OwnZ w' q o xs')∧(∀x∈xs',Lo g x.D)
theorem newDesk_any {d:Dx} {w:World} (h:DevAt w d) (hn:d.n≤1000):
  Calls Tryz.prog 78 #[dxv d] w (Made w d):=by
 obtain⟨cap,op,ac,A,n,c,xs⟩:=d
 have HR:=Lib.hid h
 have hn:n≤1000:=hn
 have L1:=Lib.hid ((Below.refl w.heap.size w).alloc (Nat.le_refl _) (.cells #[.int .i64 cap,.int .i64 op,.int .i64 ac,.slice A n c] 26))
 have B1:=Lib.hid (DBox.new w ⟨cap,op,ac,A,n,c,xs⟩)
 have HC:=fun w (h:DevAt w ⟨cap,op,ac,A,n,c,xs⟩)=>Lib.hid (check_dev h)
 have HCl:=fun w (h:RowS cellsZ 3 w A n c xs)=>Lib.hid (cloneZ_any h hn)
 have HB:=fun(X:Option Addr) (m d:Nat) (l:List B8) w (h:Row cb w X m d l)=>Lib.hid (clone_any h)
 have HLN:=Lib.hid (show xs.length=n from h.row.len)
 clear h
 unfold Made
 unfold dxv GaveL Gave at*
 generalize okD (Dx.p ⟨cap,op,ac,A,n,c,xs⟩)=ok at*
 dsimp only at*
 go_enter Tryz.func78,Tryz.ntmps78
 go_upto_region 1 with fail
 generalize w.alloc (.cells #[.int .i64 cap,.int .i64 op,.int .i64 ac,.slice A n c] 26)=w1 at*
 have L2:Hid (Below w.heap.size w w1.drew):=L1.out.drew
 have B2:Hid (DBox w1.drew w.heap.size ⟨cap,op,ac,A,n,c,xs⟩):=B1
 have hcell:=fun W (h:DBox W w.heap.size ⟨cap,op,ac,A,n,c,xs⟩)=>h.cells
 clear L1 B1
 refine wp_region_held_drew (S:=fun W=>W.cell? ⟨w.heap.size,0,none⟩=some (.int .i64 cap)∧W.cell? ⟨w.heap.size,1,none⟩=some (.int .i64 op)∧W.cell? ⟨w.heap.size,2,none⟩=some (.int .i64 ac)∧W.cell? ⟨w.heap.size,3,none⟩=some (.slice A n c))
  (by kernel_rfl) (hcell _ B2.out) (fun hHeld=> ?_)
 generalize w1.drew=w2 at*
 refine Reg.tk 0 rfl ?_
 refine Reg.tk 1 rfl ?_
 refine Reg.step 2 rfl (by kernel_rfl) (by rfl) (fun K hK=> ?_)
 go_simp
 refine(HC w2 (HR.out.below L2.out)).out.mono ?_
 rintro e w3 ⟨rfl,hb⟩
 have B3:=Lib.hid (B2.out.below hb)
 have L3:=Lib.hid (L2.out.trans (hb.mono L2.out.size))
 clear hb B2 L2 HC
 refine hK.out _ _ (hcell _ B3.out) (fun hHeld2=> ?_)
 clear hK K
 (try simp only[Act.put,List.setIfInBounds_toArray,List.set_cons_zero,List.set_cons_succ])
 have hok:(errOf ok==0)=ok:=by cases ok<;>rfl
 refine Reg.tk 3 rfl ?_
 refine Reg.tk 4 rfl ?_
 refine Reg.step 5 rfl (by kernel_rfl) (by rfl) (fun K hK=> ?_)
 go_simp
 have b4:Below w3.heap.size w3 (w3.alloc (.cells #[.int .i64 cap,.int .i64 op,.int .i64 ac,.slice A n c,.bool ok] 151)):=(Below.refl _ w3).alloc (Nat.le_refl _) _
 have K4:Hid (KBox (w3.alloc (.cells #[.int .i64 cap,.int .i64 op,.int .i64 ac,.slice A n c,.bool ok] 151)) w3.heap.size cap op ac A n c ok):=Cells.new w3 _ _
 have B4:=Lib.hid (B3.out.below b4)
 have L4:=Lib.hid (L3.out.trans (b4.mono L3.out.size))
 have G4:Hid (w.heap.size≤w3.heap.size):=L3.out.size
 have U4:Hid (w3.heap.size<(w3.alloc (.cells #[.int .i64 cap,.int .i64 op,.int .i64 ac,.slice A n c,.bool ok] 151)).heap.size):=by show _<_;simp
 clear b4 B3 L3
 refine hK.out _ _ (hcell _ B4.out) (fun hHeld3=> ?_)
 clear hK K
 (try simp only[Act.put,List.setIfInBounds_toArray,List.set_cons_zero,List.set_cons_succ])
 refine Reg.tk 6 rfl ?_
 refine wpAnyH_done (by kernel_rfl) ?_ _
 clear hHeld hHeld2 hHeld3 hok hcell
 generalize w3.alloc (.cells #[.int .i64 cap,.int .i64 op,.int .i64 ac,.slice A n c,.bool ok] 151)=w4 at*
 generalize w3.heap.size=g at*
 obtain⟨m0,m1,m2,m3⟩:=B4.out.cells
 go_wp2_with fail
 refine(HCl w4 (HR.out.row.below L4.out)).out.mono ?_
 rintro e w5 ⟨A',c',rfl,hrow,hb,hown⟩
 have K5:=Lib.hid (Cells.below K4.out hb)
 have L5:=Lib.hid (L4.out.trans (hb.mono L4.out.size))
 have HCP:=Lib.hid hrow.cap
 have k3:w5.cell? ⟨g,3,none⟩=some (.slice A n c):=Cells.cell K5.out 3
 have f3:w5.frozen? ⟨g,3,none⟩=false:=Cells.frozen K5.out 3
 have HO5:Hid (0<n→∃q,A'=some ⟨q,0,none⟩∧w.heap.size≤q∧g≠q∧OwnZ (w5.setCell ⟨g,3,none⟩ (.slice A' n c')) q 0 xs):=by
  show _→_
  intro h0
  obtain⟨q,e,hq,ho⟩:=hown h0
  have h1:=U4.out
  have h2:=G4.out
  exact⟨q,e,by omega,by omega,ho.heap (Below.heap_setCell _ _ _ _ (by show q≠g;omega))⟩
 clear hown hrow hb m0 m1 m2 m3 HCl B4 L4 K4
 go_upto_region 3 with fail
 have K6:Hid (KBox (w5.setCell ⟨g,3,none⟩ (.slice A' n c')) g cap op ac A' n c' ok):=Cells.set_ K5.out 3 (.slice A' n c')
 have L6:=Lib.hid (L5.out.setCell (p:=⟨g,3,none⟩) G4.out (.slice A' n c'))
 clear k3 f3 K5 L5
 generalize w5.setCell ⟨g,3,none⟩ (.slice A' n c')=w6 at*
 have k3:w6.cell? ⟨g,3,none⟩=some (.slice A' n c'):=Cells.cell K6.out 3
 go_wp2_with fail
 clear k3
 go_loopw [24] (fun i wr=>∃j:Nat,i= .int .i64 j∧j≤n∧Hid (∃xs',KBox wr g cap op ac A' n c' ok∧xs'.length=n∧(∀x∈xs',Row cb wr x.D x.z.data.length x.c x.z.data)∧xs'.map Zv.z=xs.map Zv.z∧Below w.heap.size w wr∧(0<n→∃q o,A'=some ⟨q,o,none⟩∧w.heap.size≤q∧g≠q∧OwnZ wr q o xs')∧(∀i x,i<j→xs'[i]? =some x→Lo g x.D))) (fun i _=>n-(intOf i).toNat)
 case atStart=>exact⟨0,rfl,by omega,xs,K6.out,HLN.out,fun x hx=>(HR.out.data x hx).below L6.out,rfl,L6.out,fun h0=>by obtain⟨q,e1,e2,e3,e4⟩:=HO5.out h0;exact⟨q,0,e1,e2,e3,e4⟩,fun i x hi _=>absurd hi (by omega)⟩
 case round=>
  obtain⟨j,rfl,hj,hI⟩:=hrel
  by_cases hlt:j<n
  ·obtain⟨xs',i1,i2,i3,i4,i5,i6,i7⟩:=hI.out
   have LW1:=Lib.hid i7
   obtain⟨q,o,rfl,q1,q2,q3⟩:=i6 (by omega)
   have P1:Hid (Pre wr g q o cap op ac n c' ok xs'):=⟨i1,q3,i2,i3,q2⟩
   have L1:=Lib.hid i5
   have M1:=Lib.hid i4
   have Q1:=Lib.hid q1
   obtain⟨x,hx⟩:∃x,xs'[j]? =some x:=⟨_,List.getElem?_eq_getElem (by omega)⟩
   have HX:=Lib.hid hx
   clear hI i1 i2 i3 i4 i5 i6 i7 q1 q2 q3 hx HO5 K6 L6
   have hk0:(0:Int)≤(j:Int):=by omega
   have hk1:(j:Int)<(n:Int):=by omega
   go_upto_region 6 with fail
   have P2:Hid (Pre wr.drew g q o cap op ac n c' ok xs'):=P1.out.below (Below.refl _ wr).drew
   have L2:Hid (Below w.heap.size w wr.drew):=L1.out.drew
   clear P1 L1
   refine wp_region_held_drew (S:=fun W=>W.cell? ⟨g,3,none⟩=some (.slice (some ⟨q,o,none⟩) n c'))
    (by kernel_rfl) P2.out.slice (fun hHeld=> ?_)
   generalize wr.drew=w7 at*
   refine Reg.tk 0 rfl ?_
   refine Reg.tk 1 rfl ?_
   refine Reg.tk 2 rfl ?_
   refine Reg.tk 3 rfl ?_
   refine Reg.tk 4 rfl ?_
   refine Reg.tk 5 rfl ?_
   refine Reg.tk 6 rfl ?_
   refine Reg.tk 7 rfl ?_
   refine Reg.tk 8 rfl ?_
   refine Reg.tk 9 rfl ?_
   refine Reg.tk 10 rfl ?_
   refine Reg.tk 11 rfl ?_
   refine Reg.tk 12 rfl ?_
   refine Reg.tk 13 rfl ?_
   refine Reg.step 14 rfl (by kernel_rfl) (by rfl) (fun K hK=> ?_)
   have z2:=P2.out.own.cell HX.out (j:=2) rfl
   go_simp
   clear z2
   refine hK.out _ _ P2.out.slice (fun hHeld2=> ?_)
   clear hK K
   (try simp only[Act.put,List.setIfInBounds_toArray,List.set_cons_zero,List.set_cons_succ])
   refine Reg.step 15 rfl (by kernel_rfl) (by rfl) (fun K hK=> ?_)
   go_simp
   refine(HB _ _ _ _ w7 (P2.out.data x (List.mem_of_getElem? HX.out))).out.mono ?_
   rintro e w8 ⟨X,m,b,rfl,hX,hb⟩
   obtain rfl:m=x.z.data.length:=hX.len.symm
   have LOX:=Lib.hid (lo_own hX (Nat.le_of_lt (Cells.lt P2.out.box)))
   have RX:=Lib.hid (gave_row hX (P2.out.data x (List.mem_of_getElem? HX.out)).big).1
   have P3:=Lib.hid (P2.out.below hb)
   have L3:=Lib.hid (L2.out.trans (hb.mono L2.out.size))
   clear hX hb P2 L2
   refine hK.out _ _ P3.out.slice (fun hHeld3=> ?_)
   clear hK K
   (try simp only[Act.put,List.setIfInBounds_toArray,List.set_cons_zero,List.set_cons_succ])
   refine Reg.tk 16 rfl ?_
   refine Reg.tk 17 rfl ?_
   refine Reg.step 18 rfl (by kernel_rfl) (by rfl) (fun K hK=> ?_)
   have z2:=P3.out.own.cell HX.out (j:=2) rfl
   have y2:=P3.out.own.frozen (o+j*3+2)
   go_simp
   have P4:=Lib.hid (P3.out.set1 (x':=⟨x.z,X,b⟩) (v:= .slice X x.z.data.length b) HX.out (j:=2) (by omega) rfl (slice_not _ _ _) rfl (Row.setNot RX.out z2 (slice_not _ _ _) _))
   have L4:=Lib.hid (L3.out.setCell (p:=⟨q,o+j*3+2,none⟩) Q1.out (.slice X x.z.data.length b))
   have M4:Hid ((xs'.set j ⟨x.z,X,b⟩).map Zv.z=xs.map Zv.z):=by
    show _=_
    rw[List.map_set,←M1.out]
    exact set_same (by rw[List.getElem?_map,HX.out];rfl)
   clear z2 y2
   refine hK.out _ _ P4.out.slice (fun hHeld4=> ?_)
   clear hK K
   (try simp only[Act.put,List.setIfInBounds_toArray,List.set_cons_zero,List.set_cons_succ])
   refine wpAnyH_done (by kernel_rfl) ?_ _
   go_wp2_with fail
   go_roundw
   case rel=>exact⟨j+1,by go_num,by omega,_,P4.out.box,P4.out.len,P4.out.data,M4.out,L4.out,fun _=>⟨q,o,rfl,Q1.out,P4.out.ne,P4.out.own⟩,fun i y hi hy=>by
    rcases Nat.lt_or_ge i j with h1|h1
    ·rw[List.getElem?_set_ne (by omega)] at hy
     exact LW1.out i y h1 hy
    ·obtain rfl:i=j:=by omega
     rw[List.getElem?_set_self (by have:=(List.getElem?_eq_some_iff.1 HX.out).1;omega)] at hy
     obtain rfl:=Option.some.inj hy
     exact LOX.out⟩
   case measure=>simp[intOf];omega
  ·obtain rfl:n=j:=by omega
   go_wp2_with fail
   go_ret
   obtain⟨xs',i1,i2,i3,i4,i5,i6,i7⟩:=hI.out
   refine⟨g,A',c',xs',rfl,G4.out,i1,⟨i2,HCP.out,by omega,fun h0=> ?_⟩,i3,i4,i5,i6,fun x hx=>by
    obtain⟨i,hi⟩:=List.getElem?_of_mem hx
    exact i7 i x (by have:=(List.getElem?_eq_some_iff.1 hi).1;omega) hi⟩
   obtain⟨q,o,e,-,-,ho⟩:=i6 h0
   exact⟨q,o,e,ho.lt,fun i x hx j u hu=>ho.cell hx hu⟩
end Zns
end
section
open Go.RowKit Mem Zon
namespace Zns
def OwnE (w:World) (q o:Nat) (es:List Ex):Prop:=∃cs,Cells w q 51 cs∧∀i x,es[i]? =some x→∀j u,(cellsE x)[j]? =some u→cs[o+i*3+j]? =some u
section
variable {w w':World} {q o:Nat} {es:List Ex}
theorem OwnE.lt (h:OwnE w q o es):q<w.heap.size:=by obtain⟨cs,h,-⟩:=h;exact Cells.lt h
theorem OwnE.heap (h:OwnE w q o es) (e:w'.heap[q]? =w.heap[q]?):OwnE w' q o es:=by obtain⟨cs,h1,h2⟩:=h;exact⟨cs,e.trans h1,h2⟩
theorem OwnE.below (h:OwnE w q o es) (hb:Below w.heap.size w w'):OwnE w' q o es:=h.heap (hb.block q h.lt)
theorem OwnE.but {p:Nat} (h:OwnE w q o es) (hb:But p w w') (hn:q≠p):OwnE w' q o es:=h.heap (hb.block h.lt hn)
theorem OwnE.frozen (h:OwnE w q o es) (i:Nat):w.frozen? ⟨q,i,none⟩=false:=by obtain⟨cs,h1,-⟩:=h;exact Cells.frozen h1 i
theorem OwnE.cell (h:OwnE w q o es) {i:Nat} {x:Ex} (hx:es[i]? =some x) {j:Nat} {u:Value} (hu:(cellsE x)[j]? =some u):w.cell? ⟨q,o+i*3+j,none⟩=some u:=by
 obtain⟨cs,h1,h2⟩:=h
 rw[Cells.cell h1]
 exact h2 i x hx j u hu
theorem OwnE.set1 (h:OwnE w q o es) {i j:Nat} {x x':Ex} {v:Value} (hx:es[i]? =some x) (hj:j<3) (hc:cellsE x'=(cellsE x).set j v):OwnE (w.setCell ⟨q,o+i*3+j,none⟩ v) q o (es.set i x'):=by
 obtain⟨cs,h1,h2⟩:=h
 refine⟨_,heap_set h1 _ _,fun i2 y hy j2 u hu=> ?_⟩
 have hj2:j2<3:=by have:=(List.getElem?_eq_some_iff.1 hu).1;simpa [cellsE] using this
 rw[List.getElem?_set] at hy
 by_cases hi:i=i2
 ·subst hi
  have hil:i<es.length:=(List.getElem?_eq_some_iff.1 hx).1
  rw[if_pos rfl,if_pos hil] at hy
  injection hy with hy
  subst hy
  rw[hc,List.getElem?_set] at hu
  by_cases hjj:j=j2
  ·subst hjj
   rw[if_pos rfl,if_pos (by simpa [cellsE] using hj)] at hu
   injection hu with hu
   subst hu
   obtain⟨u0,hu0⟩:∃u,(cellsE x)[j]? =some u:=⟨_,List.getElem?_eq_getElem (by simpa [cellsE] using hj)⟩
   have hb:=(Array.getElem?_eq_some_iff.1 (h2 i x hx j u0 hu0)).1
   simp[hb]
  ·rw[if_neg hjj] at hu
   rw[Array.getElem?_setIfInBounds,if_neg (by omega)]
   exact h2 i x hx j2 u hu
 ·rw[if_neg hi] at hy
  rw[Array.getElem?_setIfInBounds,if_neg (by omega)]
  exact h2 i2 y hy j2 u hu
theorem OwnE.row (h:OwnE w q o es) {n c:Nat} (hl:es.length=n) (hn:n≤c) (hb:n≤1000):RowS cellsE 3 w (some ⟨q,o,none⟩) n c es:=
 ⟨hl,hn,by omega,fun _=>⟨_,_,rfl,h.lt,fun _ _ hx _ _ hu=>h.cell hx hu⟩⟩
theorem OwnE.store (h:OwnE w q o es) {i:Nat} {x:Ex} (x':Ex) (hx:es[i]? =some x):
  OwnE (((w.setCell ⟨q,o+i*3,none⟩ (.int .i64 x'.p.e)).setCell ⟨q,o+i*3+1,none⟩ (.int .i64 x'.p.at_)).setCell ⟨q,o+i*3+2,none⟩ (.slice x'.B x'.p.b.length x'.k)) q o (es.set i x'):=by
 have hil:i<es.length:=(List.getElem?_eq_some_iff.1 hx).1
 have s1:=h.set1 (x':=⟨⟨x'.p.e,x.p.at_,x.p.b⟩,x.B,x.k⟩) (v:= .int .i64 x'.p.e) hx (j:=0) (by omega) rfl
 have g1:(es.set i (⟨⟨x'.p.e,x.p.at_,x.p.b⟩,x.B,x.k⟩:Ex))[i]? =some (⟨⟨x'.p.e,x.p.at_,x.p.b⟩,x.B,x.k⟩:Ex):=by simp[hil]
 have s2:=s1.set1 (x':=⟨⟨x'.p.e,x'.p.at_,x.p.b⟩,x.B,x.k⟩) (v:= .int .i64 x'.p.at_) g1 (j:=1) (by omega) rfl
 rw[List.set_set] at s2
 have g2:(es.set i (⟨⟨x'.p.e,x'.p.at_,x.p.b⟩,x.B,x.k⟩:Ex))[i]? =some (⟨⟨x'.p.e,x'.p.at_,x.p.b⟩,x.B,x.k⟩:Ex):=by simp[hil]
 have s3:=s2.set1 (x':=x') (v:= .slice x'.B x'.p.b.length x'.k) g2 (j:=2) (by omega) rfl
 rw[List.set_set] at s3
 exact s3
theorem OwnE.row3 (h:OwnE w q o es) {i:Nat} {x:Ex} (hx:es[i]? =some x) {A:Option Addr} {m c:Nat} {l:List B8} (hr:Row cb w A m c l) (a b:Int) (B':Option Addr) (n' d':Nat):
  Row cb (((w.setCell ⟨q,o+i*3,none⟩ (.int .i64 a)).setCell ⟨q,o+i*3+1,none⟩ (.int .i64 b)).setCell ⟨q,o+i*3+2,none⟩ (.slice B' n' d')) A m c l:=by
 have h0:w.cell? ⟨q,o+i*3,none⟩=some (.int .i64 x.p.e):=h.cell hx (j:=0) rfl
 have h1:w.cell? ⟨q,o+i*3+1,none⟩=some (.int .i64 x.p.at_):=h.cell hx (j:=1) rfl
 have h2:w.cell? ⟨q,o+i*3+2,none⟩=some (.slice x.B x.p.b.length x.k):=h.cell hx (j:=2) rfl
 exact Row.setNot (Row.setNot (Row.setNot hr h0 (int_not _) _) ((World.cell?_setCell_other _ _ _ _ (by simp)).trans h1) (int_not _) _) ((World.cell?_setCell_other _ _ _ _ (by simp)).trans ((World.cell?_setCell_other _ _ _ _ (by simp)).trans h2)) (slice_not _ _ _) _
theorem heap3 (w:World) (q a b c:Nat) (x y z:Value) (k:Nat) (hk:k≠q):(((w.setCell ⟨q,a,none⟩ x).setCell ⟨q,b,none⟩ y).setCell ⟨q,c,none⟩ z).heap[k]? =w.heap[k]? :=
 ((Below.heap_setCell _ _ _ _ hk).trans (Below.heap_setCell _ _ _ _ hk)).trans (Below.heap_setCell _ _ _ _ hk)
theorem OwnE.desk (h:OwnE w q o es) {i:Nat} {x:Ex} (hx:es[i]? =some x) {k:Dk} {xs:List Zv} (hd:Desk k xs w) (hg:q≠k.g) (hq:q≠k.q) (a b:Int) (B':Option Addr) (n' d':Nat):
  Desk k xs (((w.setCell ⟨q,o+i*3,none⟩ (.int .i64 a)).setCell ⟨q,o+i*3+1,none⟩ (.int .i64 b)).setCell ⟨q,o+i*3+2,none⟩ (.slice B' n' d')):=
 ⟨(heap3 _ _ _ _ _ _ _ _ _ (Ne.symm hg)).trans hd.box,hd.own.heap (heap3 _ _ _ _ _ _ _ _ _ (Ne.symm hq)),hd.len,hd.cap,hd.big,fun y hy=>h.row3 hx (hd.data y hy) a b B' n' d',hd.ne,hd.low⟩
end
theorem info_done:(Tryz.prog.info? 51).map (fun i=>(i.zero,i.size,i.bytes))=some (some (.agg #[.int .i64 0,.int .i64 0,.slice none 0 0]),3,40):=by kernel_rfl
def zeroE:Ex:=⟨⟨0,0,[]⟩,none,0⟩
def zeroV:Zv:=⟨nilZ,none,0⟩
theorem made_get (v0 v1 v2:Value) (n i j:Nat) (hi:i<n) (hj:j<3):(madeCells #[v0,v1,v2] (n*3))[i*3+j]? = #[v0,v1,v2][j]? :=by
 have hp:i*3+j<n*3:=by omega
 have hm:(i*3+j)%3=j:=by omega
 unfold madeCells
 rw[Array.getElem?_map,Array.getElem?_range,if_pos hp]
 show some _=_
 match j,hj with
 |0,_=>simp
 |1,_=>simp[hm]
 |2,_=>simp[hm]
theorem made_done {w:World} (n:Nat):OwnE (w.alloc (.cells (madeCells #[.int .i64 0,.int .i64 0,.slice none 0 0] (n*3)) 51)) w.heap.size 0 (List.replicate n zeroE):=by
 refine⟨_,Cells.new w _ _,fun i x hx j u hu=> ?_⟩
 have hj:j<3:=by have:=(List.getElem?_eq_some_iff.1 hu).1;simpa [cellsE] using this
 rw[List.getElem?_replicate] at hx
 split at hx
 ·rename_i hi
  injection hx with hx
  subst hx
  rw[Nat.zero_add,made_get _ _ _ _ _ _ hi hj]
  simpa [cellsE,zeroE] using hu
 ·cases hx
theorem made_zone {w:World} (n:Nat):OwnZ (w.alloc (.cells (madeCells #[.int .i64 0,.int .i64 0,.slice none 0 0] (n*3)) 46)) w.heap.size 0 (List.replicate n zeroV):=by
 refine⟨_,Cells.new w _ _,fun i x hx j u hu=> ?_⟩
 have hj:j<3:=by have:=(List.getElem?_eq_some_iff.1 hu).1;simpa [cellsZ] using this
 rw[List.getElem?_replicate] at hx
 split at hx
 ·rename_i hi
  injection hx with hx
  subst hx
  rw[Nat.zero_add,made_get _ _ _ _ _ _ hi hj]
  simpa [cellsZ,zeroV,nilZ] using hu
 ·cases hx
theorem run_make_done (w:World) (n:Nat) (hn:n≤1000):(Instr.makeSlice 106 (.int .i64 (n:Int)) (.int .i64 (n:Int))).run Tryz.prog w= .ok (.slice (some ⟨w.heap.size,0,none⟩) n n) (w.alloc (.cells (madeCells #[.int .i64 0,.int .i64 0,.slice none 0 0] (n*3)) 51)):=by
 obtain⟨i,hi,hz0,hz1,hz2⟩:=info_parts info_done
 have h:=run_make (P:=Tryz.prog) w 106 51 i _ Tryz.underlying106 hi hz0 .i64 .i64 (n:Int) (n:Int) (by omega) (by omega) (by rw[hz2];omega) (by omega)
 rw[hz1] at h
 exact h
theorem run_make_zone (w:World) (n:Nat) (hn:n≤1000):(Instr.makeSlice 24 (.int .i64 (n:Int)) (.int .i64 (n:Int))).run Tryz.prog w= .ok (.slice (some ⟨w.heap.size,0,none⟩) n n) (w.alloc (.cells (madeCells #[.int .i64 0,.int .i64 0,.slice none 0 0] (n*3)) 46)):=by
 obtain⟨i,hi,hz0,hz1,hz2⟩:=info_parts info_zone
 have h:=run_make (P:=Tryz.prog) w 24 46 i _ Tryz.underlying24 hi hz0 .i64 .i64 (n:Int) (n:Int) (by omega) (by omega) (by rw[hz2];omega) (by omega)
 rw[hz1] at h
 exact h
end Zns
end
section
open Go.RowKit Mem Zon
namespace Zns
def Gone (w:World) (d:Dx) (m:Nat) (r:Dv × List Dn) (en:Ending) (w':World):Prop:=
 ∃A c xs B es,en= .returned (.tuple #[.agg #[.int .i64 d.cap,.int .i64 d.op,.int .i64 d.ac,.slice A d.n c],.slice B m m])∧DevAt w' ⟨d.cap,d.op,d.ac,A,d.n,c,xs⟩∧(⟨d.cap,d.op,d.ac,xs.map Zv.z⟩:Dv)=r.1∧
  RowS cellsE 3 w' B m m es∧(∀x∈es,DoneAt w' x)∧es.map Ex.p=r.2∧Below w.heap.size w w'∧(∀q o,A=some ⟨q,o,none⟩→w.heap.size≤q)∧(∀q o,B=some ⟨q,o,none⟩→w.heap.size≤q)∧(∀v∈xs,Lo w.heap.size v.D)
theorem Row.butBox {w w':World} {b:Nat} {t:TypeId} {cs:Array Value} {A:Option Addr} {n c:Nat} {l:List B8} (h:Row cb w A n c l) (hc:Cells w b t cs) (hn:∀(j:Nat) (v:Value),cs[j]? =some v→∀x,v≠cb x) (hb:But b w w'):Row cb w' A n c l:=by
 refine⟨h.len,h.cap,h.big,fun h0=> ?_⟩
 obtain⟨q,o,e,hq,hcell⟩:=h.at_ h0
 have hne:q≠b:=by
  intro e2
  subst e2
  obtain⟨x,hx⟩:=h.get h0
  have h1:=hcell 0 x hx
  rw[Cells.cell hc] at h1
  exact hn _ _ h1 x rfl
 refine⟨q,o,e,Nat.lt_of_lt_of_le hq hb.by_.size,fun i x hi=> ?_⟩
 rw[World.cell?_of_block (w:=w) (hb.block hq hne)]
 exact hcell i x hi
theorem RowS.butBlock {α:Type} {cells:α→List Value} {k:Nat} {w w':World} {b:Nat} {A:Option Addr} {n c:Nat} {xs:List α} (h:RowS cells k w A n c xs) (hn:∀q o,A=some ⟨q,o,none⟩→0<n→q≠b) (hb:But b w w'):RowS cells k w' A n c xs:=by
 refine⟨h.len,h.cap,h.big,fun h0=> ?_⟩
 obtain⟨q,o,e,hq,hcell⟩:=h.at_ h0
 refine⟨q,o,e,Nat.lt_of_lt_of_le hq hb.by_.size,fun i x hi j u hu=> ?_⟩
 rw[World.cell?_of_block (w:=w) (hb.block hq (hn q o e h0))]
 exact hcell i x hi j u hu
theorem dev_not (a b c:Int) (A:Option Addr) (n k:Nat):∀(j:Nat) (v:Value),(#[Value.int .i64 a,.int .i64 b,.int .i64 c,.slice A n k]:Array Value)[j]? =some v→∀x,v≠cb x:=by
 intro j v h x
 match j,h with
 |0,h=>simp at h;subst h;exact int_not _ x
 |1,h=>simp at h;subst h;exact int_not _ x
 |2,h=>simp at h;subst h;exact int_not _ x
 |3,h=>simp at h;subst h;exact slice_not _ _ _ x
theorem But.set4 (w:World) (q:Nat) (x y z v:Value):But q w ((((w.setCell ⟨q,0,none⟩ x).setCell ⟨q,1,none⟩ y).setCell ⟨q,2,none⟩ z).setCell ⟨q,3,none⟩ v):=
 (But.set1 _ _ _ _).trans ((But.set1 _ _ _ _).trans ((But.set1 _ _ _ _).trans (But.set1 _ _ _ _)))
theorem Cells.set4 {w:World} {q:Nat} {t:TypeId} {a b c d:Value} (h:Cells w q t #[a,b,c,d]) (x y z v:Value):Cells ((((w.setCell ⟨q,0,none⟩ x).setCell ⟨q,1,none⟩ y).setCell ⟨q,2,none⟩ z).setCell ⟨q,3,none⟩ v) q t #[x,y,z,v]:=
 Cells.set_ (Cells.set_ (Cells.set_ (Cells.set_ h 0 x) 1 y) 2 z) 3 v
theorem below4 {B g:Nat} {a w:World} (h:Below B a w) (hg:B≤g) (x y z v:Value):Below B a ((((w.setCell ⟨g,0,none⟩ x).setCell ⟨g,1,none⟩ y).setCell ⟨g,2,none⟩ z).setCell ⟨g,3,none⟩ v):=
 (((h.setCell (p:=⟨g,0,none⟩) hg x).setCell (p:=⟨g,1,none⟩) hg y).setCell (p:=⟨g,2,none⟩) hg z).setCell (p:=⟨g,3,none⟩) hg v
theorem take_set {α:Type} (l:List α) (j:Nat) (e:α) (hj:j<l.length):(l.set j e).take (j+1)=l.take j++ [e]:=by
 rw[List.take_add_one,List.getElem?_set,if_pos rfl,if_pos hj,Option.toList_some,List.take_set_of_le (by omega)]
theorem cmd_cells {w W:World} {L:Option Addr} {m lc:Nat} {cs:List Cx} (h:RowS cellsC 6 w L m lc cs) {j:Nat} {x:Cx} (hx:cs[j]? =some x) (hW:Below w.heap.size w W):
  ∃b o,L=some ⟨b,o,none⟩∧W.cell? ⟨b,o+j*6,none⟩=some (.int .i64 x.c.d)∧W.cell? ⟨b,o+j*6+1,none⟩=some (.int .i64 x.c.zone)∧W.cell? ⟨b,o+j*6+2,none⟩=some (.int .i64 x.c.epoch)∧W.cell? ⟨b,o+j*6+3,none⟩=some (.int .i64 x.c.off)∧W.cell? ⟨b,o+j*6+4,none⟩=some (.int .i64 x.c.n)∧W.cell? ⟨b,o+j*6+5,none⟩=some (.slice x.B x.c.b.length x.k):=by
 obtain⟨b,o,e,hb,hc⟩:=h.elem hx
 exact⟨b,o,e,hc W (hW.block b hb) 0 _ rfl,hc W (hW.block b hb) 1 _ rfl,hc W (hW.block b hb) 2 _ rfl,hc W (hW.block b hb) 3 _ rfl,hc W (hW.block b hb) 4 _ rfl,hc W (hW.block b hb) 5 _ rfl⟩
theorem Away.keep {q:Nat} {w w':World} {B:Option Addr} {n d:Nat} {l:List B8} (h:Away q w B n d l) (hb:But q w w'):Away q w' B n d l:=by
 obtain⟨h,hq⟩:=h
 refine⟨⟨h.len,h.cap,h.big,fun h0=> ?_⟩,hq⟩
 obtain⟨p,o,e,hp,hc⟩:=h.at_ h0
 refine⟨p,o,e,Nat.lt_of_lt_of_le hp hb.by_.size,fun i x hi=> ?_⟩
 rw[World.cell?_of_block (w:=w) (hb.block hp (hq p o e h0))]
 exact hc i x hi
theorem Away.below {q:Nat} {w w':World} {B:Option Addr} {n d:Nat} {l:List B8} (h:Away q w B n d l) (hb:Below w.heap.size w w'):Away q w' B n d l:=⟨h.1.below hb,h.2⟩
def AwayE (q:Nat) (w:World) (x:Ex):Prop:=Away q w x.B x.p.b.length x.k x.p.b
theorem all_by {d:Dx} {L:Option Addr} {m lc:Nat} {cs:List Cx} {w:World} (hdo:∀x∈cs,DoesB x) (h:DevAt w d) (hn:d.n≤1000) (hl:RowS cellsC 6 w L m lc cs) (hcs:∀x∈cs,CmdAt w x) (hm:m≤1000) (hok:okD d.p=true):
  Calls Tryz.prog 41 #[dxv d,.slice L m lc] w (Gone w d m (⟨d.cap,d.op,d.ac,(stepsP d.cap d.op d.ac (d.xs.map Zv.z) (cs.map Cx.c)).1⟩,(stepsP d.cap d.op d.ac (d.xs.map Zv.z) (cs.map Cx.c)).2)):=by
 unfold Gone
 have HR:=Lib.hid h
 have HCS:=Lib.hid hcs
 have HDO:=Lib.hid hdo
 clear hdo
 have HL:=Lib.hid hl
 have HLN:=Lib.hid (show cs.length=m from hl.len)
 have L1:Hid (Below w.heap.size w ((w.alloc (.cells #[.int .i64 d.cap,.int .i64 d.op,.int .i64 d.ac,.slice d.A d.n d.c] 26)).alloc (.cells #[.int .i64 0,.int .i64 0,.int .i64 0,.slice none 0 0] 26))):=((Below.refl w.heap.size w).alloc (Nat.le_refl _) _).alloc (by simp) _
 have B1:Hid (DBox ((w.alloc (.cells #[.int .i64 d.cap,.int .i64 d.op,.int .i64 d.ac,.slice d.A d.n d.c] 26)).alloc (.cells #[.int .i64 0,.int .i64 0,.int .i64 0,.slice none 0 0] 26)) w.heap.size d):=heap_alloc2_old w _ _
 have N1:Hid (Cells ((w.alloc (.cells #[.int .i64 d.cap,.int .i64 d.op,.int .i64 d.ac,.slice d.A d.n d.c] 26)).alloc (.cells #[.int .i64 0,.int .i64 0,.int .i64 0,.slice none 0 0] 26)) (w.heap.size+1) 26 #[.int .i64 0,.int .i64 0,.int .i64 0,.slice none 0 0]):=heap_alloc2_new w _ _
 have HN:=fun w (h:DevAt w d)=>Lib.hid (newDesk_any h hn)
 have HA:=fun g w=>Lib.hid (acts_any g w)
 obtain⟨o,ho⟩:∃o:Nat,o=0:=⟨0,rfl⟩
 have hmk:∀w:World,(Instr.makeSlice 106 (.int .i64 (m:Int)) (.int .i64 (m:Int))).run Tryz.prog w= .ok (.slice (some ⟨w.heap.size,o,none⟩) m m) (w.alloc (.cells (madeCells #[.int .i64 0,.int .i64 0,.slice none 0 0] (m*3)) 51)):=by
  rw[ho];exact fun w=>run_make_done w m hm
 have HMD:=fun w:World=>Lib.hid (show OwnE (w.alloc (.cells (madeCells #[.int .i64 0,.int .i64 0,.slice none 0 0] (m*3)) 51)) w.heap.size o (List.replicate m zeroE) by rw[ho];exact made_done m)
 clear h hcs hl ho
 unfold Made at HN
 rw[hok] at HN
 unfold dxv at HN ⊢
 go_enter Tryz.func41,Tryz.ntmps41
 go_upto_region 1 with fail
 generalize(w.alloc (.cells #[.int .i64 d.cap,.int .i64 d.op,.int .i64 d.ac,.slice d.A d.n d.c] 26)).alloc (.cells #[.int .i64 0,.int .i64 0,.int .i64 0,.slice none 0 0] 26)=w1 at*
 obtain⟨m0,m1,m2,m3⟩:=B1.out.cells
 go_wp2_with fail
 refine(HN w1 (HR.out.below L1.out)).out.mono ?_
 rintro e w2 ⟨g,A,c',xs',rfl,hg,hk,hrow,hdat,hmap,hb,hown,hlw⟩
 have hb0:=(okD_parts (d:=d.p)).1 hok
 rw[HR.out.plen] at hb0
 obtain⟨n1,n64,-⟩:=bounds_parts.1 hb0.1
 obtain⟨q,o1,rfl,hq,hgq,hoz⟩:=hown (by omega)
 have K2:Hid (Desk ⟨g,q,o1,d.cap,d.op,d.ac,d.n,c'⟩ xs' w2):=⟨hk,hoz,hrow.len,hrow.cap,by show d.n≤64;omega,hdat,hgq,hlw⟩
 have L2:=Lib.hid (L1.out.trans (hb.mono L1.out.size))
 have N2:=Lib.hid (Cells.below N1.out hb)
 have U2:Hid (w.heap.size+1<g∧w.heap.size+1<q∧w.heap.size≤g∧w.heap.size≤q):=by
  have:=Cells.lt N1.out
  exact⟨by omega,by omega,by omega,by omega⟩
 have M2:=Lib.hid hmap
 clear hb hown hrow hdat hk hoz hmap hg hq hgq hb0 n1 n64 m0 m1 m2 m3 L1 B1 N1 HN hok
 go_wp2_with fail
 refine(HA g w2).out.mono ?_
 rintro e w3 ⟨rfl,hac,hb⟩
 have K3:=Lib.hid (K2.out.below hb)
 have L3:=Lib.hid (L2.out.trans (hb.mono L2.out.size))
 have N3:=Lib.hid (Cells.below N2.out hb)
 have C3:=Lib.hid hac
 have V3:Hid (g<w2.heap.size∧q<w2.heap.size∧w2.heap.size<w3.heap.size∧w.heap.size+1<w2.heap.size):=by
  have h1:=K2.out.g_lt
  have h2:=K2.out.q_lt
  have h3:=(Array.getElem?_eq_some_iff.1 hac).1
  have h4:=Cells.lt N2.out
  exact⟨h1,h2,h3,h4⟩
 clear hb hac K2 L2 N2 HA
 generalize w2.heap.size=r at*
 go_upto_region 4 with fail
 have b4:Below w3.heap.size w3 (w3.alloc (.cells (madeCells #[.int .i64 0,.int .i64 0,.slice none 0 0] (m*3)) 51)):=(Below.refl _ w3).alloc (Nat.le_refl _) _
 have K4:=Lib.hid (K3.out.below b4)
 have L4:=Lib.hid (L3.out.trans (b4.mono L3.out.size))
 have N4:=Lib.hid (Cells.below N3.out b4)
 have C4:=Lib.hid (C3.out.below b4)
 have E4:=HMD w3
 have V4:Hid (w.heap.size≤w3.heap.size):=L3.out.size
 clear b4 K3 L3 N3 C3 HMD hmk
 generalize w3.alloc (.cells (madeCells #[.int .i64 0,.int .i64 0,.slice none 0 0] (m*3)) 51)=w4 at*
 generalize w3.heap.size=dq at*
 generalize hsp:stepsP d.cap d.op d.ac (d.xs.map Zv.z)=sp at*
 have HSP:Hid (∀l c,sp (l++ [c])=((stepP d.cap d.op d.ac (sp l).1 c).1,(sp l).2++ [(stepP d.cap d.op d.ac (sp l).1 c).2])):=by
  show ∀_,_
  intro l c
  rw[←hsp];exact stepsP_snoc _ _ _ _ _ _
 have HS0:Hid (sp []=(d.xs.map Zv.z,[])):=by show _=_;rw[←hsp];rfl
 have HSE:=Lib.hid hsp
 clear hsp
 go_wp2_with fail
 go_loopw [20] (fun i wr=>∃j:Nat,i= .int .i64 j∧j≤m∧Hid (∃xs' es,Desk ⟨g,q,o1,d.cap,d.op,d.ac,d.n,c'⟩ xs' wr∧Acts wr r g∧OwnE wr dq o es∧es.length=m∧(∀x∈es,AwayE q wr x)∧Below w.heap.size w wr∧
  Cells wr (w.heap.size+1) 26 #[.int .i64 0,.int .i64 0,.int .i64 0,.slice none 0 0]∧xs'.map Zv.z=(sp ((cs.take j).map Cx.c)).1∧(es.take j).map Ex.p=(sp ((cs.take j).map Cx.c)).2)) (fun i _=>m-(intOf i).toNat)
 case atStart=>
  refine⟨0,rfl,by omega,xs',List.replicate m zeroE,K4.out,C4.out,E4.out,by simp,fun x hx=> ?_,L4.out,N4.out,?_,?_⟩
  ·rw[List.eq_of_mem_replicate hx];exact Away.nil _ _
  ·rw[M2.out];show _=(sp []).1;rw[HS0.out]
  ·show _=(sp []).2;rw[HS0.out];rfl
 case round=>
  obtain⟨j,rfl,hj,hI⟩:=hrel
  by_cases hlt:j<m
  ·obtain⟨xs1,es,i1,i2,i3,i4,i5,i6,i7,i8,i9⟩:=hI.out
   have K5:=Lib.hid i1
   have C5:=Lib.hid i2
   have E5:=Lib.hid i3
   have EL:=Lib.hid i4
   have ED:=Lib.hid i5
   have L5:=Lib.hid i6
   have N5:=Lib.hid i7
   have M5:=Lib.hid i8
   have P5:=Lib.hid i9
   clear hI i1 i2 i3 i4 i5 i6 i7 i8 i9 K4 C4 E4 L4 N4
   obtain⟨x,hx⟩:=HL.out.get hlt
   obtain⟨b,oo,rfl,c0,c1,c2,c3,c4,c5⟩:=cmd_cells HL.out hx L5.out
   have HX:=Lib.hid hx
   have HXC:=Lib.hid (HCS.out x (List.mem_of_getElem? hx))
   have hk0:(0:Int)≤(j:Int):=by omega
   have hk1:(j:Int)<(m:Int):=by omega
   have b6:Below wr.heap.size wr (wr.alloc (.cells #[.int .i64 x.c.d,.int .i64 x.c.zone,.int .i64 x.c.epoch,.int .i64 x.c.off,.int .i64 x.c.n,.slice x.B x.c.b.length x.k] 55)):=(Below.refl _ wr).alloc (Nat.le_refl _) _
   have K6:=Lib.hid (K5.out.below b6)
   have C6:=Lib.hid (C5.out.below b6)
   have E6:=Lib.hid (E5.out.below b6)
   have ED6:Hid (∀y∈es,AwayE q (wr.alloc (.cells #[.int .i64 x.c.d,.int .i64 x.c.zone,.int .i64 x.c.epoch,.int .i64 x.c.off,.int .i64 x.c.n,.slice x.B x.c.b.length x.k] 55)) y):=fun y hy=>Away.below (ED.out y hy) b6
   have L6:=Lib.hid (L5.out.trans (b6.mono L5.out.size))
   have N6:=Lib.hid (Cells.below N5.out b6)
   have X6:Hid (CBox (wr.alloc (.cells #[.int .i64 x.c.d,.int .i64 x.c.zone,.int .i64 x.c.epoch,.int .i64 x.c.off,.int .i64 x.c.n,.slice x.B x.c.b.length x.k] 55)) wr.heap.size x.c.d x.c.zone x.c.epoch x.c.off x.c.n x.B x.c.b.length x.k):=Cells.new wr _ _
   have HD:=fun w (h:Desk ⟨g,q,o1,d.cap,d.op,d.ac,d.n,c'⟩ xs1 w) (ha:Acts w r g) (hc:CmdAt w x)=>Lib.hid (HDO.out x (List.mem_of_getElem? HX.out) ⟨g,q,o1,d.cap,d.op,d.ac,d.n,c'⟩ xs1 w r h ha hc)
   unfold cxv Acted at HD
   clear hx b6 K5 C5 E5 ED L5 N5
   go_upto_region 7 with fail
   clear c0 c1 c2 c3 c4 c5
   generalize wr.alloc (.cells #[.int .i64 x.c.d,.int .i64 x.c.zone,.int .i64 x.c.epoch,.int .i64 x.c.off,.int .i64 x.c.n,.slice x.B x.c.b.length x.k] 55)=w6 at*
   generalize wr.heap.size=gx at*
   obtain⟨y0,y1,y2,y3,y4,y5⟩:=CBox.cells X6.out
   go_wp2_with fail
   refine(HD w6 K6.out C6.out (HXC.out.below L6.out)).out.mono ?_
   rintro e w7 ⟨xs2,X,xc,rfl,hD,hz,hr,hB⟩
   have HNE:Hid (dq≠g∧dq≠q∧dq≠r∧r≠q∧dq≠w.heap.size+1∧w.heap.size+1≠q∧r≠dq):=by
    have h1:=V3.out
    have h2:=V4.out
    have h3:=U2.out
    exact⟨by omega,by omega,by omega,by omega,by omega,by omega,by omega⟩
   have K7:=Lib.hid hD
   have C7:=Lib.hid (C6.out.but hB HNE.out.2.2.2.1)
   have E7:=Lib.hid (E6.out.but hB HNE.out.2.1)
   have OZ6:=Lib.hid K6.out.own
   have ED7:Hid (∀x∈es,AwayE q w7 x):=by
    show ∀_,_
    intro y hy
    exact Away.keep (ED6.out y hy) hB
   have L7:=Lib.hid (L6.out.trans (hB.below L6.out.size (by have:=U2.out;omega)))
   have N7:=Lib.hid (Cells.but N6.out hB HNE.out.2.2.2.2.2.1)
   have R7:=Lib.hid hr
   have M7:=Lib.hid hz
   clear hD hz hr hB y0 y1 y2 y3 y4 y5 K6 C6 E6 ED6 L6 N6 X6 HD OZ6
   have HST:=Lib.hid (HSP.out ((cs.take j).map Cx.c) x.c)
   rw[M5.out] at M7 R7 ⊢
   generalize stepP d.cap d.op d.ac (sp ((cs.take j).map Cx.c)).1 x.c=st at*
   obtain⟨e0,he0⟩:∃e0,es[j]? =some e0:=⟨_,List.getElem?_eq_getElem (by have:=EL.out;omega)⟩
   have HE0:=Lib.hid he0
   clear he0
   have z0:w7.cell? ⟨dq,o+j*3,none⟩=some (.int .i64 e0.p.e):=E7.out.cell HE0.out (j:=0) rfl
   have z1:=E7.out.cell HE0.out (j:=1) rfl
   have z2:=E7.out.cell HE0.out (j:=2) rfl
   have f0:=E7.out.frozen (o+j*3)
   have f1:=E7.out.frozen (o+j*3+1)
   have f2:=E7.out.frozen (o+j*3+2)
   have FIN:Hid (∃xs' es,Desk ⟨g,q,o1,d.cap,d.op,d.ac,d.n,c'⟩ xs' (((w7.setCell ⟨dq,o+j*3,none⟩ (.int .i64 st.2.e)).setCell ⟨dq,o+j*3+1,none⟩ (.int .i64 st.2.at_)).setCell ⟨dq,o+j*3+2,none⟩ (.slice X st.2.b.length xc))∧Acts (((w7.setCell ⟨dq,o+j*3,none⟩ (.int .i64 st.2.e)).setCell ⟨dq,o+j*3+1,none⟩ (.int .i64 st.2.at_)).setCell ⟨dq,o+j*3+2,none⟩ (.slice X st.2.b.length xc)) r g∧OwnE (((w7.setCell ⟨dq,o+j*3,none⟩ (.int .i64 st.2.e)).setCell ⟨dq,o+j*3+1,none⟩ (.int .i64 st.2.at_)).setCell ⟨dq,o+j*3+2,none⟩ (.slice X st.2.b.length xc)) dq o es∧es.length=m∧(∀x∈es,AwayE q (((w7.setCell ⟨dq,o+j*3,none⟩ (.int .i64 st.2.e)).setCell ⟨dq,o+j*3+1,none⟩ (.int .i64 st.2.at_)).setCell ⟨dq,o+j*3+2,none⟩ (.slice X st.2.b.length xc)) x)∧Below w.heap.size w (((w7.setCell ⟨dq,o+j*3,none⟩ (.int .i64 st.2.e)).setCell ⟨dq,o+j*3+1,none⟩ (.int .i64 st.2.at_)).setCell ⟨dq,o+j*3+2,none⟩ (.slice X st.2.b.length xc))∧
     Cells (((w7.setCell ⟨dq,o+j*3,none⟩ (.int .i64 st.2.e)).setCell ⟨dq,o+j*3+1,none⟩ (.int .i64 st.2.at_)).setCell ⟨dq,o+j*3+2,none⟩ (.slice X st.2.b.length xc)) (w.heap.size+1) 26 #[.int .i64 0,.int .i64 0,.int .i64 0,.slice none 0 0]∧xs'.map Zv.z=(sp ((cs.take (j+1)).map Cx.c)).1∧(es.take (j+1)).map Ex.p=(sp ((cs.take (j+1)).map Cx.c)).2):=by
    have hT:(cs.take (j+1)).map Cx.c=(cs.take j).map Cx.c++ [x.c]:=by rw[List.take_add_one,HX.out,Option.toList_some,List.map_append];rfl
    refine⟨xs2,es.set j ⟨st.2,X,xc⟩,E7.out.desk HE0.out K7.out HNE.out.1 HNE.out.2.1 _ _ _ _ _,(heap3 _ _ _ _ _ _ _ _ _ HNE.out.2.2.2.2.2.2).trans C7.out,E7.out.store ⟨st.2,X,xc⟩ HE0.out,by rw[List.length_set];exact EL.out,fun y hy=> ?_,?_,(heap3 _ _ _ _ _ _ _ _ _ (Ne.symm HNE.out.2.2.2.2.1)).trans N7.out,?_,?_⟩
    ·rcases List.mem_or_eq_of_mem_set hy with hy|rfl
     ·exact⟨E7.out.row3 HE0.out (ED7.out y hy).1 _ _ _ _ _,(ED7.out y hy).2⟩
     ·exact⟨E7.out.row3 HE0.out R7.out.1 _ _ _ _ _,R7.out.2⟩
    ·exact((L7.out.setCell (p:=⟨dq,_,none⟩) V4.out _).setCell (p:=⟨dq,_,none⟩) V4.out _).setCell (p:=⟨dq,_,none⟩) V4.out _
    ·rw[hT,HST.out];exact M7.out
    ·rw[hT,HST.out,take_set _ _ _ (by have:=EL.out;omega),List.map_append,P5.out];rfl
   clear K7 C7 E7 ED7 L7 N7 R7 M7 HST HNE
   go_wp2_with fail
   go_roundw
   case rel=>exact⟨j+1,by go_num,by omega,FIN.out⟩
   case measure=>simp[intOf];omega
  ·obtain rfl:m=j:=by omega
   obtain⟨xs1,es,i1,i2,i3,i4,i5,i6,i7,i8,i9⟩:=hI.out
   have K5:=Lib.hid i1
   have E5:=Lib.hid i3
   have EL:=Lib.hid i4
   have ED:=Lib.hid i5
   have L5:=Lib.hid i6
   have N5:=Lib.hid i7
   have M5:=Lib.hid i8
   have P5:=Lib.hid i9
   clear hI i1 i2 i3 i4 i5 i6 i7 i8 i9 K4 C4 E4 L4 N4
   obtain⟨d0,d1,d2,d3,d4⟩:=K5.out.cells
   have v0:wr.cell? ⟨w.heap.size+1,0,none⟩=some (.int .i64 0):=Cells.cell N5.out 0
   have v1:wr.cell? ⟨w.heap.size+1,1,none⟩=some (.int .i64 0):=Cells.cell N5.out 1
   have v2:wr.cell? ⟨w.heap.size+1,2,none⟩=some (.int .i64 0):=Cells.cell N5.out 2
   have v3:wr.cell? ⟨w.heap.size+1,3,none⟩=some (.slice none 0 0):=Cells.cell N5.out 3
   have f0:wr.frozen? ⟨w.heap.size+1,0,none⟩=false:=Cells.frozen N5.out 0
   have f1:wr.frozen? ⟨w.heap.size+1,1,none⟩=false:=Cells.frozen N5.out 1
   have f2:wr.frozen? ⟨w.heap.size+1,2,none⟩=false:=Cells.frozen N5.out 2
   have f3:wr.frozen? ⟨w.heap.size+1,3,none⟩=false:=Cells.frozen N5.out 3
   dsimp only at d0 d1 d2 d3 d4
   go_wp2_with fail
   refine bodyPost_ret_by (results_zone_tmp rfl _ _ (w.heap.size+1) _ _ _ _ rfl (Cells.set4 N5.out (.int .i64 d.cap) (.int .i64 d.op) (.int .i64 d.ac) (.slice (some ⟨q,o1,none⟩) d.n c')) Tryz.underlying26 rfl (by kernel_rfl)) rfl ?_
   have hb4:=But.set4 wr (w.heap.size+1) (.int .i64 d.cap) (.int .i64 d.op) (.int .i64 d.ac) (.slice (some ⟨q,o1,none⟩) d.n c')
   have hnd:=dev_not 0 0 0 none 0 0
   have hu:=U2.out
   have hv:=V3.out
   have hfull:cs.take m=cs:=List.take_of_length_le (by have:=HLN.out;omega)
   have hfe:es.take m=es:=List.take_of_length_le (by have:=EL.out;omega)
   rw[hfull] at M5 P5
   rw[hfe] at P5
   refine⟨_,_,xs1,_,es,rfl,⟨RowS.butBlock K5.out.row (fun q2 o2 e _=>by injection e with e;injection e with e1;omega) hb4,fun y hy=>Row.butBox (K5.out.data y hy) N5.out hnd hb4⟩,?_,RowS.butBlock (E5.out.row EL.out (Nat.le_refl _) hm) (fun q2 o2 e _=>by injection e with e;injection e with e1;omega) hb4,fun y hy=>Row.butBox (ED.out y hy).1 N5.out hnd hb4,?_,below4 L5.out (by omega) _ _ _ _,fun q2 o2 e=>by injection e with e;injection e with e1;omega,fun q2 o2 e=>by injection e with e;injection e with e1;have:=V4.out;omega,fun v hv=>(K5.out.low v hv).mono (by have:=U2.out;show w.heap.size≤g;omega)⟩
   ·rw[M5.out,HSE.out]
   ·rw[P5.out,HSE.out]
end Zns
end
section
open Go.RowKit Mem
namespace Zon
theorem ok_iff {z:Zn} {most:Int} (h1:1≤most) (h2:most≤65536) (h3:0≤z.fc):okB z most=mayB z.st z.len most:=by
 unfold okB
 rw[decide_eq_false (by omega:¬most<1),decide_eq_false (by omega:¬65536<most),decide_eq_false (by omega:¬z.fc<0)]
 rfl
end Zon
end
section
open Go.RowKit Mem Zon
namespace Zns
def one (b:Bool):Nat:=bif b then 1 else 0
structure OkL (cap op ac:Int) (zs:List Zn):Prop where
 bounds:boundsB zs.length cap op ac=true
 all:∀z∈zs,okB z cap=true
 op_:(cO zs:Int)≤op
 ac_:(cA zs:Int)≤ac
section
variable {cap op ac:Int} {zs:List Zn}
end
structure Lv (cap op ac:Int) (zs:List Zn) (c:Cm) (r:List Zn × Dn):Prop where
 ok:OkL cap op ac r.1
 err:r.2.e≠0→r.1=zs∧r.2.b= []∧r.2.at_=0
 len:r.1.length=zs.length
 oth:∃o:Option Nat,(∀i:Nat,(i:Int)≠c.zone→o≠some i→r.1[i]? =zs[i]?)∧(∀k:Nat,o=some k→r.2.e=0∧∃z,zs[k]? =some z∧z.st=1∧r.1[k]? =some (closeZ z)∧closeErr z=0∧(closeZ z).fc=z.fc∧(closeZ z).data=z.data∧(k:Int)≠c.zone)
 fc:∀(i:Nat) (z z':Zn),zs[i]? =some z→r.1[i]? =some z'→z.fc≤z'.fc
 read:c.d=2→r.1=zs
section
variable {cap op ac:Int} {zs:List Zn} {c:Cm}
end
section
variable {cap op ac:Int} {zs:List Zn} {c:Cm}
end
end Zns
end
end Go.Proofs.YtmkagjnkpjpjcaaGreat
