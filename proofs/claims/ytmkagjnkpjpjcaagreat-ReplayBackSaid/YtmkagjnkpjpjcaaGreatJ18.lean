/-
  SEVERAL TEXTS IN ONE FILE: PZnsNew, PZnsDoCall, PPkDev, PPkLandM, PRunP, PRunT, PRunFill.
-/
import Derived.Test.YtmkagjnkpjpjcaaGreatJ17
import Derived.Test.YtmkagjnkpjpjcaaGreatJ11
import Derived.Test.YtmkagjnkpjpjcaaGreatJ14
import Derived.Test.YtmkagjnkpjpjcaaGreatJ15
import Derived.Test.YtmkagjnkpjpjcaaGreatJ13
namespace Go.Proofs.YtmkagjnkpjpjcaaGreat
set_option maxRecDepth 100000
set_option linter.unusedSimpArgs false
set_option linter.unusedVariables false
set_option maxHeartbeats 12800000
section
open Go.RowKit Mem Zon
namespace Zns
def newP (zones most op ac:Int):Dv:=bif boundsB zones most op ac then⟨most,op,ac,List.replicate zones.toNat nilZ⟩ else⟨0,0,0,[]⟩
def GaveD (w:World) (p:Dv) (er:Int) (en:Ending) (w':World):Prop:=
 ∃d,en= .returned (.tuple #[.agg #[.int .i64 d.cap,.int .i64 d.op,.int .i64 d.ac,.slice d.A d.n d.c],.int .i64 er])∧DevAt w' d∧d.p=p∧Below w.heap.size w w'
def GaveDL (w:World) (p:Dv) (er:Int) (en:Ending) (w':World):Prop:=
 ∃d,en= .returned (.tuple #[.agg #[.int .i64 d.cap,.int .i64 d.op,.int .i64 d.ac,.slice d.A d.n d.c],.int .i64 er])∧DevAt w' d∧d.p=p∧Below w.heap.size w w'∧(∀q o,d.A=some ⟨q,o,none⟩→w.heap.size≤q)∧∀v∈d.xs,Lo w.heap.size v.D
def dx0:Dx:=⟨0,0,0,none,0,0,[]⟩
theorem dev0 (w:World):DevAt w dx0:=⟨RowS.nil _ _ _,by intro x hx;cases hx⟩
theorem new_ok {n:Nat} {most op ac:Int} (h:boundsB n most op ac=true):okD ⟨most,op,ac,List.replicate n nilZ⟩=true:=by
 have hb:=bounds_parts.1 h
 refine okD_parts.2 ⟨by rw[List.length_replicate];exact h,fun z hz=> ?_,?_,?_⟩
 ·rw[List.eq_of_mem_replicate hz]
  show okB nilZ most=true
  rw[ok_iff (by omega) (by omega) (show(0:Int)≤0 by omega)]
  rfl
 ·have:cO (List.replicate n nilZ)=0:=by unfold cO;rw[List.countP_replicate];rfl
  rw[this]
  show(0:Int)≤op
  omega
 ·have:cA (List.replicate n nilZ)=0:=by unfold cA;rw[List.countP_replicate];rfl
  rw[this]
  show(0:Int)≤ac
  omega
theorem made_dev {w':World} {most op ac:Int} {n o q:Nat} (hn:n≤1000) (ho:o=0) (h:OwnZ w' q 0 (List.replicate n zeroV)):DevAt w' ⟨most,op,ac,some ⟨q,o,none⟩,n,n,List.replicate n zeroV⟩∧(⟨most,op,ac,some ⟨q,o,none⟩,n,n,List.replicate n zeroV⟩:Dx).p=⟨most,op,ac,List.replicate n nilZ⟩:=by
 subst ho
 refine⟨⟨⟨by simp,Nat.le_refl _,by show n≤_;omega,fun _=>⟨q,0,rfl,h.lt,fun i x hx j u hu=>h.cell hx hu⟩⟩,fun x hx=> ?_⟩,?_⟩
 ·rw[List.eq_of_mem_replicate hx];exact Row.nil cb _
 ·show Dv.mk _ _ _ _=_
  rw[List.map_replicate];rfl
theorem new_lo (zones most op ac:Int) (w:World):
  Calls Tryz.prog 22 #[.int .i64 zones,.int .i64 most,.int .i64 op,.int .i64 ac] w (GaveDL w (newP zones most op ac) (errOf (boundsB zones most op ac))):=by
 have HB:=fun w=>bounds_any zones most op ac w
 have L1:Hid (Below w.heap.size w (w.alloc (.cells #[.int .i64 0,.int .i64 0,.int .i64 0,.slice none 0 0] 26))):=(Below.refl _ w).alloc (Nat.le_refl _) _
 have Z1:Hid (Cells (w.alloc (.cells #[.int .i64 0,.int .i64 0,.int .i64 0,.slice none 0 0] 26)) w.heap.size 26 #[.int .i64 0,.int .i64 0,.int .i64 0,.slice none 0 0]):=Cells.new w _ _
 unfold GaveDL newP
 rcases hb:boundsB zones most op ac
 ·rw[hb] at HB
  go_enter Tryz.func22,Tryz.ntmps22
  go_upto_region 1 with fail
  generalize w.alloc (.cells #[.int .i64 0,.int .i64 0,.int .i64 0,.slice none 0 0] 26)=w1 at*
  have z0:w1.cell? ⟨w.heap.size,0,none⟩=some (.int .i64 0):=Cells.cell Z1.out 0
  have z1:w1.cell? ⟨w.heap.size,1,none⟩=some (.int .i64 0):=Cells.cell Z1.out 1
  have z2:w1.cell? ⟨w.heap.size,2,none⟩=some (.int .i64 0):=Cells.cell Z1.out 2
  have z3:w1.cell? ⟨w.heap.size,3,none⟩=some (.slice none 0 0):=Cells.cell Z1.out 3
  have f0:w1.frozen? ⟨w.heap.size,0,none⟩=false:=Cells.frozen Z1.out 0
  have f1:w1.frozen? ⟨w.heap.size,1,none⟩=false:=Cells.frozen Z1.out 1
  have f2:w1.frozen? ⟨w.heap.size,2,none⟩=false:=Cells.frozen Z1.out 2
  have f3:w1.frozen? ⟨w.heap.size,3,none⟩=false:=Cells.frozen Z1.out 3
  go_wp2_with fail
  refine(HB w1).mono ?_
  rintro e w2 ⟨rfl,rfl⟩
  go_wp2_with fail
  refine bodyPost_ret_by (results_zone_tmp rfl _ _ w.heap.size _ _ _ _ rfl (Cells.set4 Z1.out (.int .i64 0) (.int .i64 0) (.int .i64 0) (.slice none 0 0)) Tryz.underlying26 rfl (by kernel_rfl)) rfl ?_
  exact⟨dx0,rfl,dev0 _,rfl,below4 L1.out (Nat.le_refl _) _ _ _ _,fun q o e=>(by cases e),fun v hv=>(by cases hv)⟩
 ·rw[hb] at HB
  obtain⟨n,rfl⟩:∃n:Nat,zones=(n:Int):=⟨zones.toNat,by have:=(bounds_parts.1 hb).1;omega⟩
  have hn:n≤1000:=by have:=(bounds_parts.1 hb).2.1;omega
  obtain⟨o,ho⟩:∃o:Nat,o=0:=⟨0,rfl⟩
  have HO:=Lib.hid ho
  have hmk:∀w:World,(Instr.makeSlice 24 (.int .i64 (n:Int)) (.int .i64 (n:Int))).run Tryz.prog w= .ok (.slice (some ⟨w.heap.size,o,none⟩) n n) (w.alloc (.cells (madeCells #[.int .i64 0,.int .i64 0,.slice none 0 0] (n*3)) 46)):=by
   rw[ho];exact fun w=>run_make_zone w n hn
  have HM:=fun w:World=>Lib.hid (made_zone (w:=w) n)
  clear hb ho
  go_enter Tryz.func22,Tryz.ntmps22
  go_upto_region 1 with fail
  generalize w.alloc (.cells #[.int .i64 0,.int .i64 0,.int .i64 0,.slice none 0 0] 26)=w1 at*
  go_wp2_with fail
  refine(HB w1).mono ?_
  rintro e w2 ⟨rfl,hw⟩
  obtain rfl:=hw.symm
  clear hw
  have b2:Below w1.heap.size w1 (w1.alloc (.cells (madeCells #[.int .i64 0,.int .i64 0,.slice none 0 0] (n*3)) 46)):=(Below.refl _ w1).alloc (Nat.le_refl _) _
  have Z2:=Lib.hid (Cells.below Z1.out b2)
  have L2:=Lib.hid (L1.out.trans (b2.mono L1.out.size))
  have M2:=HM w1
  have V2:Hid (w.heap.size<w1.heap.size):=Cells.lt Z1.out
  have z0:(w1.alloc (.cells (madeCells #[.int .i64 0,.int .i64 0,.slice none 0 0] (n*3)) 46)).cell? ⟨w.heap.size,0,none⟩=some (.int .i64 0):=Cells.cell Z2.out 0
  have z1:(w1.alloc (.cells (madeCells #[.int .i64 0,.int .i64 0,.slice none 0 0] (n*3)) 46)).cell? ⟨w.heap.size,1,none⟩=some (.int .i64 0):=Cells.cell Z2.out 1
  have z2:(w1.alloc (.cells (madeCells #[.int .i64 0,.int .i64 0,.slice none 0 0] (n*3)) 46)).cell? ⟨w.heap.size,2,none⟩=some (.int .i64 0):=Cells.cell Z2.out 2
  have z3:(w1.alloc (.cells (madeCells #[.int .i64 0,.int .i64 0,.slice none 0 0] (n*3)) 46)).cell? ⟨w.heap.size,3,none⟩=some (.slice none 0 0):=Cells.cell Z2.out 3
  have f0:(w1.alloc (.cells (madeCells #[.int .i64 0,.int .i64 0,.slice none 0 0] (n*3)) 46)).frozen? ⟨w.heap.size,0,none⟩=false:=Cells.frozen Z2.out 0
  have f1:(w1.alloc (.cells (madeCells #[.int .i64 0,.int .i64 0,.slice none 0 0] (n*3)) 46)).frozen? ⟨w.heap.size,1,none⟩=false:=Cells.frozen Z2.out 1
  have f2:(w1.alloc (.cells (madeCells #[.int .i64 0,.int .i64 0,.slice none 0 0] (n*3)) 46)).frozen? ⟨w.heap.size,2,none⟩=false:=Cells.frozen Z2.out 2
  have f3:(w1.alloc (.cells (madeCells #[.int .i64 0,.int .i64 0,.slice none 0 0] (n*3)) 46)).frozen? ⟨w.heap.size,3,none⟩=false:=Cells.frozen Z2.out 3
  generalize hw2:w1.alloc (.cells (madeCells #[.int .i64 0,.int .i64 0,.slice none 0 0] (n*3)) 46)=w2 at*
  have hmk2:=hmk w1
  rw[hw2] at hmk2
  clear hw2 hmk HM L1 Z1
  generalize w1.heap.size=q at*
  go_wp2_with fail
  refine bodyPost_ret_by (results_zone_tmp rfl _ _ w.heap.size _ _ _ _ rfl (Cells.set4 Z2.out (.int .i64 most) (.int .i64 op) (.int .i64 ac) (.slice (some ⟨q,o,none⟩) n n)) Tryz.underlying26 rfl (by kernel_rfl)) rfl ?_
  obtain⟨k1,k2⟩:=made_dev (most:=most) (op:=op) (ac:=ac) (by omega) HO.out (M2.out.heap (w':=(((w2.setCell ⟨w.heap.size,0,none⟩ (.int .i64 most)).setCell ⟨w.heap.size,1,none⟩ (.int .i64 op)).setCell ⟨w.heap.size,2,none⟩ (.int .i64 ac)).setCell ⟨w.heap.size,3,none⟩ (.slice (some ⟨q,o,none⟩) n n)) ((But.set4 w2 w.heap.size _ _ _ _).block M2.out.lt (by have:=V2.out;omega)))
  exact⟨_,rfl,k1,k2,below4 L2.out (Nat.le_refl _) _ _ _ _,fun q' o' e=>(by injection e with e;injection e with e;have:=V2.out;omega),fun v hv=>(by rw[List.eq_of_mem_replicate hv];exact Lo.none _)⟩
end Zns
end
section
open Go.RowKit Mem Zon
namespace Zns
def Did (w:World) (d:Dx) (r:Dv × Dn) (en:Ending) (w':World):Prop:=
 ∃A c xs B k,en= .returned (.tuple #[.agg #[.int .i64 d.cap,.int .i64 d.op,.int .i64 d.ac,.slice A d.n c],.agg #[.int .i64 r.2.e,.int .i64 r.2.at_,.slice B r.2.b.length k]])∧DevAt w' ⟨d.cap,d.op,d.ac,A,d.n,c,xs⟩∧(⟨d.cap,d.op,d.ac,xs.map Zv.z⟩:Dv)=r.1∧
  Row cb w' B r.2.b.length k r.2.b∧Below w.heap.size w w'∧(∀q o,A=some ⟨q,o,none⟩→w.heap.size≤q)∧(∀v∈xs,Lo w.heap.size v.D)
theorem one_cmd {w:World} {x:Cx} {q:Nat} (hq:q=w.heap.size):RowS cellsC 6 (w.alloc (.cells #[.int .i64 x.c.d,.int .i64 x.c.zone,.int .i64 x.c.epoch,.int .i64 x.c.off,.int .i64 x.c.n,.slice x.B x.c.b.length x.k] 55)) (some ⟨q,0,none⟩) 1 1 [x]:=by
 subst hq
 refine⟨rfl,by omega,by omega,fun _=>⟨_,_,rfl,by simp,fun i y hi j u hu=> ?_⟩⟩
 match i,hi with
 |0,hi=>
  simp at hi
  subst hi
  rw[cell_of_row _ w.heap.size (0+0*6+j) _ _ (0,0) (heap_alloc_new w _)]
  simpa [cellsC] using hu
theorem results_two {P:Program} {fn:Func} {p u:Tmp} {ty ty2:TypeId} (h:fn.results= #[.cell p ty,.cell u ty2]) (tmps:Array Value) (w:World) (g g2:Nat) (t t2:TypeId) (cs cs2:Array Value) (fr fr2:Nat × Nat) (d d2:TypeDesc)
  (hp:tmps.getD p undef= .pointer (some ⟨g,0,none⟩)) (hg:w.heap[g]? =some (.cells cs t fr)) (hu:P.underlying ty=some d) (hd:(match d with| .struct _| .array _ _=>true|_=>false)=true) (hi:(P.info? ty).map (·.size)=some cs.size)
  (hp2:tmps.getD u undef= .pointer (some ⟨g2,0,none⟩)) (hg2:w.heap[g2]? =some (.cells cs2 t2 fr2)) (hu2:P.underlying ty2=some d2) (hd2:(match d2 with| .struct _| .array _ _=>true|_=>false)=true) (hi2:(P.info? ty2).map (·.size)=some cs2.size):
  (results fn tmps).run P w= .ok (.tuple #[.agg cs,.agg cs2]) w:=by
 have hp':tmps[p]?.getD undef= .pointer (some ⟨g,0,none⟩):=by simpa using hp
 have hp2':tmps[u]?.getD undef= .pointer (some ⟨g2,0,none⟩):=by simpa using hp2
 simp[results,h,hp',hp2',asAddr,Result.andThen,run_loadVar_row w g t ty cs fr d hg hu hd hi,run_loadVar_row w g2 t2 ty2 cs2 fr2 d2 hg2 hu2 hd2 hi2]
theorem four_new (w:World) (d:Dx) (x:Cx):
  Hid (Below w.heap.size w ((((w.alloc (.cells #[.int .i64 d.cap,.int .i64 d.op,.int .i64 d.ac,.slice d.A d.n d.c] 26)).alloc (.cells #[.int .i64 x.c.d,.int .i64 x.c.zone,.int .i64 x.c.epoch,.int .i64 x.c.off,.int .i64 x.c.n,.slice x.B x.c.b.length x.k] 55)).alloc (.cells #[.int .i64 0,.int .i64 0,.int .i64 0,.slice none 0 0] 26)).alloc (.cells #[.int .i64 0,.int .i64 0,.slice none 0 0] 51)))∧Hid (DBox ((((w.alloc (.cells #[.int .i64 d.cap,.int .i64 d.op,.int .i64 d.ac,.slice d.A d.n d.c] 26)).alloc (.cells #[.int .i64 x.c.d,.int .i64 x.c.zone,.int .i64 x.c.epoch,.int .i64 x.c.off,.int .i64 x.c.n,.slice x.B x.c.b.length x.k] 55)).alloc (.cells #[.int .i64 0,.int .i64 0,.int .i64 0,.slice none 0 0] 26)).alloc (.cells #[.int .i64 0,.int .i64 0,.slice none 0 0] 51)) w.heap.size d)∧Hid (CBox ((((w.alloc (.cells #[.int .i64 d.cap,.int .i64 d.op,.int .i64 d.ac,.slice d.A d.n d.c] 26)).alloc (.cells #[.int .i64 x.c.d,.int .i64 x.c.zone,.int .i64 x.c.epoch,.int .i64 x.c.off,.int .i64 x.c.n,.slice x.B x.c.b.length x.k] 55)).alloc (.cells #[.int .i64 0,.int .i64 0,.int .i64 0,.slice none 0 0] 26)).alloc (.cells #[.int .i64 0,.int .i64 0,.slice none 0 0] 51)) (w.heap.size+1) x.c.d x.c.zone x.c.epoch x.c.off x.c.n x.B x.c.b.length x.k)∧
   Hid (Cells ((((w.alloc (.cells #[.int .i64 d.cap,.int .i64 d.op,.int .i64 d.ac,.slice d.A d.n d.c] 26)).alloc (.cells #[.int .i64 x.c.d,.int .i64 x.c.zone,.int .i64 x.c.epoch,.int .i64 x.c.off,.int .i64 x.c.n,.slice x.B x.c.b.length x.k] 55)).alloc (.cells #[.int .i64 0,.int .i64 0,.int .i64 0,.slice none 0 0] 26)).alloc (.cells #[.int .i64 0,.int .i64 0,.slice none 0 0] 51)) (w.heap.size+1+1) 26 #[.int .i64 0,.int .i64 0,.int .i64 0,.slice none 0 0])∧Hid (EBox ((((w.alloc (.cells #[.int .i64 d.cap,.int .i64 d.op,.int .i64 d.ac,.slice d.A d.n d.c] 26)).alloc (.cells #[.int .i64 x.c.d,.int .i64 x.c.zone,.int .i64 x.c.epoch,.int .i64 x.c.off,.int .i64 x.c.n,.slice x.B x.c.b.length x.k] 55)).alloc (.cells #[.int .i64 0,.int .i64 0,.int .i64 0,.slice none 0 0] 26)).alloc (.cells #[.int .i64 0,.int .i64 0,.slice none 0 0] 51)) (w.heap.size+1+1+1) 0 0 none 0 0):=by
 have b1:Below w.heap.size w (w.alloc (.cells #[.int .i64 d.cap,.int .i64 d.op,.int .i64 d.ac,.slice d.A d.n d.c] 26)):=(Below.refl _ w).alloc (Nat.le_refl _) _
 have h1:DBox (w.alloc (.cells #[.int .i64 d.cap,.int .i64 d.op,.int .i64 d.ac,.slice d.A d.n d.c] 26)) w.heap.size d:=DBox.new w d
 have s1:(w.alloc (.cells #[.int .i64 d.cap,.int .i64 d.op,.int .i64 d.ac,.slice d.A d.n d.c] 26)).heap.size=w.heap.size+1:=by simp
 generalize w.alloc (.cells #[.int .i64 d.cap,.int .i64 d.op,.int .i64 d.ac,.slice d.A d.n d.c] 26)=w1 at*
 have b2:Below w1.heap.size w1 (w1.alloc (.cells #[.int .i64 x.c.d,.int .i64 x.c.zone,.int .i64 x.c.epoch,.int .i64 x.c.off,.int .i64 x.c.n,.slice x.B x.c.b.length x.k] 55)):=(Below.refl _ w1).alloc (Nat.le_refl _) _
 have h2:CBox (w1.alloc (.cells #[.int .i64 x.c.d,.int .i64 x.c.zone,.int .i64 x.c.epoch,.int .i64 x.c.off,.int .i64 x.c.n,.slice x.B x.c.b.length x.k] 55)) w1.heap.size x.c.d x.c.zone x.c.epoch x.c.off x.c.n x.B x.c.b.length x.k:=Cells.new w1 _ _
 have s2:(w1.alloc (.cells #[.int .i64 x.c.d,.int .i64 x.c.zone,.int .i64 x.c.epoch,.int .i64 x.c.off,.int .i64 x.c.n,.slice x.B x.c.b.length x.k] 55)).heap.size=w1.heap.size+1:=by simp
 generalize w1.alloc (.cells #[.int .i64 x.c.d,.int .i64 x.c.zone,.int .i64 x.c.epoch,.int .i64 x.c.off,.int .i64 x.c.n,.slice x.B x.c.b.length x.k] 55)=w2 at*
 have b3:Below w2.heap.size w2 (w2.alloc (.cells #[.int .i64 0,.int .i64 0,.int .i64 0,.slice none 0 0] 26)):=(Below.refl _ w2).alloc (Nat.le_refl _) _
 have h3:Cells (w2.alloc (.cells #[.int .i64 0,.int .i64 0,.int .i64 0,.slice none 0 0] 26)) w2.heap.size 26 #[.int .i64 0,.int .i64 0,.int .i64 0,.slice none 0 0]:=Cells.new w2 _ _
 have s3:(w2.alloc (.cells #[.int .i64 0,.int .i64 0,.int .i64 0,.slice none 0 0] 26)).heap.size=w2.heap.size+1:=by simp
 generalize w2.alloc (.cells #[.int .i64 0,.int .i64 0,.int .i64 0,.slice none 0 0] 26)=w3 at*
 have b4:Below w3.heap.size w3 (w3.alloc (.cells #[.int .i64 0,.int .i64 0,.slice none 0 0] 51)):=(Below.refl _ w3).alloc (Nat.le_refl _) _
 have h4:EBox (w3.alloc (.cells #[.int .i64 0,.int .i64 0,.slice none 0 0] 51)) w3.heap.size 0 0 none 0 0:=Cells.new w3 _ _
 generalize w3.alloc (.cells #[.int .i64 0,.int .i64 0,.slice none 0 0] 51)=w4 at*
 rw[s3,s2,s1] at h4
 rw[s2,s1] at h3
 rw[s1] at h2
 exact⟨((b1.trans (b2.mono b1.size)).trans (b3.mono (by omega))).trans (b4.mono (by omega)),((h1.below b2).below b3).below b4,CBox.below (CBox.below h2 b3) b4,Cells.below h3 b4,h4⟩
theorem stepsP_one (cap op ac:Int) (zs:List Zn) (c:Cm):stepsP cap op ac zs [c]=((stepP cap op ac zs c).1,[(stepP cap op ac zs c).2]):=rfl
theorem do_by {d:Dx} {x:Cx} {w:World} (hdo:DoesB x) (h:DevAt w d) (hn:d.n≤1000) (hc:CmdAt w x) (hok:okD d.p=true):
  Calls Tryz.prog 16 #[dxv d,cxv x] w (Did w d (doP d.p x.c)):=by
 have HR:=Lib.hid h
 have HC:=Lib.hid hc
 have HPL:=Lib.hid (show doP d.p x.c=(⟨d.cap,d.op,d.ac,(stepP d.cap d.op d.ac (d.xs.map Zv.z) x.c).1⟩,(stepP d.cap d.op d.ac (d.xs.map Zv.z) x.c).2) by unfold doP;rw[hok];rfl)
 have HA:=fun(w:World) (q:Nat) (hq:q=w.heap.size) (h:DevAt w d) (hc:CmdAt w x)=>Lib.hid (all_by (by intro y hy;rw[List.mem_singleton.1 hy];exact hdo) (h.below ((Below.refl _ w).alloc (Nat.le_refl _) (.cells #[.int .i64 x.c.d,.int .i64 x.c.zone,.int .i64 x.c.epoch,.int .i64 x.c.off,.int .i64 x.c.n,.slice x.B x.c.b.length x.k] 55))) hn (one_cmd (x:=x) hq) (by intro y hy;rw[List.mem_singleton.1 hy];exact hc.below ((Below.refl _ w).alloc (Nat.le_refl _) _)) (by omega) hok)
 rw[HPL.out]
 clear h hc hdo
 unfold dxv cxv Gone at*
 obtain⟨L4,D4,C4,Z4,E4⟩:=four_new w d x
 have HST:=Lib.hid (stepsP_one d.cap d.op d.ac (d.xs.map Zv.z) x.c)
 generalize stepP d.cap d.op d.ac (d.xs.map Zv.z) x.c=st at*
 go_enter Tryz.func16,Tryz.ntmps16
 go_upto_region 1 with fail
 have hr3:Hid (w.heap.size<w.heap.size+1+1∧w.heap.size+1+1<w.heap.size+1+1+1):=⟨by omega,by omega⟩
 generalize(((w.alloc (.cells #[.int .i64 d.cap,.int .i64 d.op,.int .i64 d.ac,.slice d.A d.n d.c] 26)).alloc (.cells #[.int .i64 x.c.d,.int .i64 x.c.zone,.int .i64 x.c.epoch,.int .i64 x.c.off,.int .i64 x.c.n,.slice x.B x.c.b.length x.k] 55)).alloc (.cells #[.int .i64 0,.int .i64 0,.int .i64 0,.slice none 0 0] 26)).alloc (.cells #[.int .i64 0,.int .i64 0,.slice none 0 0] 51)=w4 at*
 generalize w.heap.size+1+1+1=r3 at*
 generalize w.heap.size+1+1=r2 at*
 obtain⟨m0,m1,m2,m3⟩:=D4.out.cells
 obtain⟨y0,y1,y2,y3,y4,y5⟩:=CBox.cells C4.out
 go_wp2_with fail
 refine(HA w4 _ rfl (HR.out.below L4.out) (HC.out.below L4.out)).out.mono ?_
 rintro e w5 ⟨A,c',xs',B,es,rfl,hdev,hpl,hrow,hdn,hmp,hb,hA,hB,hLO⟩
 have HLO:Hid (∀v∈xs',Lo w.heap.size v.D):=Lib.hid fun v hv=>(hLO v hv).mono (by have:=L4.out.size;simp;omega)
 clear hLO
 have hb45:Below w4.heap.size w4 w5:=((Below.refl _ w4).alloc (Nat.le_refl _) _).trans (hb.mono (by simp))
 obtain⟨e0,rfl⟩:∃e0,es= [e0]:=List.length_eq_one_iff.1 hrow.len
 have hx1:List.map Cx.c [x]= [x.c]:=rfl
 rw[hx1,HST.out] at hmp hpl
 have HMP:Hid (e0.p=st.2):=by show _=_;simpa using hmp
 have b6:Below w5.heap.size w5 (w5.alloc (.cells #[.int .i64 d.cap,.int .i64 d.op,.int .i64 d.ac,.slice A d.n c'] 26)):=(Below.refl _ w5).alloc (Nat.le_refl _) _
 have b46:=hb45.trans (b6.mono hb45.size)
 have L6:=Lib.hid (L4.out.trans (b46.mono L4.out.size))
 have Z6:=Lib.hid (Cells.below Z4.out b46)
 have E6:=Lib.hid (EBox.below E4.out b46)
 have DV6:=Lib.hid (hdev.below b6)
 have RB6:=Lib.hid ((hdn e0 (by simp)).below b6)
 have D6:Hid (DBox (w5.alloc (.cells #[.int .i64 d.cap,.int .i64 d.op,.int .i64 d.ac,.slice A d.n c'] 26)) w5.heap.size ⟨d.cap,d.op,d.ac,A,d.n,c',xs'⟩):=DBox.new w5 ⟨d.cap,d.op,d.ac,A,d.n,c',xs'⟩
 have HPZ:=Lib.hid hpl
 have HG:Hid (r2<w5.heap.size∧r3<w5.heap.size):=by
  have h1:=Cells.lt Z4.out
  have h2:=E4.out.lt
  have h3:=hb45.size
  exact⟨by omega,by omega⟩
 have HAq:Hid (∀q o,A=some ⟨q,o,none⟩→r2<q∧r3<q):=by
  show ∀_,_
  intro q o e
  have h:=hA q o e
  have h1:=Cells.lt Z4.out
  have h2:=E4.out.lt
  simp only[World.size_alloc] at h
  exact⟨by omega,by omega⟩
 obtain⟨b,o,rfl,hbl,hec⟩:=hrow.elem (i:=0) rfl
 have HBq:Hid (r2<b∧r3<b∧b<w5.heap.size):=by
  have h:=hB b o rfl
  have h1:=Cells.lt Z4.out
  have h2:=E4.out.lt
  simp only[World.size_alloc] at h
  exact⟨by omega,by omega,hbl⟩
 have e6c:∀W:World,W.heap[b]? =w5.heap[b]? →W.cell? ⟨b,o,none⟩=some (.int .i64 e0.p.e)∧W.cell? ⟨b,o+1,none⟩=some (.int .i64 e0.p.at_)∧W.cell? ⟨b,o+2,none⟩=some (.slice e0.B e0.p.b.length e0.k):=by
  intro W hW
  have h0:=hec W hW 0 _ rfl
  have h1:=hec W hW 1 _ rfl
  have h2:=hec W hW 2 _ rfl
  simp only[Nat.zero_mul,Nat.add_zero] at h0 h1 h2
  exact⟨h0,h1,h2⟩
 have HBS:Hid (b<(w5.alloc (.cells #[.int .i64 d.cap,.int .i64 d.op,.int .i64 d.ac,.slice A d.n c'] 26)).heap.size):=by have:=HBq.out.2.2;show _<_;simp;omega
 have hw5:Hid (∀k,k<w5.heap.size→(w5.alloc (.cells #[.int .i64 d.cap,.int .i64 d.op,.int .i64 d.ac,.slice A d.n c'] 26)).heap[k]? =w5.heap[k]?):=fun k hk=>b6.block k hk
 clear hmp hx1 hb45 hdev hpl hrow hdn hb hA hB hbl hec b6 b46 m0 m1 m2 m3 y0 y1 y2 y3 y4 y5 L4 D4 C4 Z4 E4 HA HST HPL HR HC
 go_upto_region 2 with fail
 have hcell:∀W:World,W.heap[b]? =w5.heap[b]? →DBox W w5.heap.size ⟨d.cap,d.op,d.ac,A,d.n,c',xs'⟩→(W.cell? ⟨w5.heap.size,0,none⟩=some (.int .i64 d.cap)∧W.cell? ⟨w5.heap.size,1,none⟩=some (.int .i64 d.op)∧W.cell? ⟨w5.heap.size,2,none⟩=some (.int .i64 d.ac)∧W.cell? ⟨w5.heap.size,3,none⟩=some (.slice A d.n c'))∧(W.cell? ⟨b,o,none⟩=some (.int .i64 e0.p.e)∧W.cell? ⟨b,o+1,none⟩=some (.int .i64 e0.p.at_)∧W.cell? ⟨b,o+2,none⟩=some (.slice e0.B e0.p.b.length e0.k)):=fun W h1 h2=>⟨h2.cells,e6c W h1⟩
 generalize w5.alloc (.cells #[.int .i64 d.cap,.int .i64 d.op,.int .i64 d.ac,.slice A d.n c'] 26)=w6 at*
 have HBK:Hid (w6.heap[b]? =w5.heap[b]?):=hw5.out b HBq.out.2.2
 generalize hwb:w5.heap[b]? =wb at*
 clear hwb e6c hw5
 have HG6:Hid (r2<w5.heap.size∧r3<w5.heap.size∧b<w5.heap.size):=⟨HG.out.1,HG.out.2,HBq.out.2.2⟩
 generalize w5.heap.size=g6 at*
 refine wp_region_held_drew (S:=fun W=>(W.cell? ⟨g6,0,none⟩=some (.int .i64 d.cap)∧W.cell? ⟨g6,1,none⟩=some (.int .i64 d.op)∧W.cell? ⟨g6,2,none⟩=some (.int .i64 d.ac)∧W.cell? ⟨g6,3,none⟩=some (.slice A d.n c'))∧(W.cell? ⟨b,o,none⟩=some (.int .i64 e0.p.e)∧W.cell? ⟨b,o+1,none⟩=some (.int .i64 e0.p.at_)∧W.cell? ⟨b,o+2,none⟩=some (.slice e0.B e0.p.b.length e0.k)))
  (by kernel_rfl) (hcell _ HBK.out D6.out) (fun hHeld=> ?_)
 have Z7:Hid (Cells w6.drew r2 26 #[.int .i64 0,.int .i64 0,.int .i64 0,.slice none 0 0]):=Z6
 have E7:Hid (EBox w6.drew r3 0 0 none 0 0):=E6
 have DV7:Hid (DevAt w6.drew ⟨d.cap,d.op,d.ac,A,d.n,c',xs'⟩):=DV6.out.below (Below.refl _ w6).drew
 have RB7:Hid (DoneAt w6.drew e0):=RB6.out.below (Below.refl _ w6).drew
 have D7:Hid (DBox w6.drew g6 ⟨d.cap,d.op,d.ac,A,d.n,c',xs'⟩):=D6
 have L7:Hid (Below w.heap.size w w6.drew):=L6.out.drew
 have K7:Hid (w6.drew.heap[b]? =wb):=HBK
 have HBS7:Hid (b<w6.drew.heap.size):=HBS
 clear Z6 E6 DV6 RB6 D6 L6 HBK HBS
 generalize w6.drew=w7 at*
 refine Reg.tk 0 rfl ?_
 refine Reg.tk 1 rfl ?_
 refine Reg.tk 2 rfl ?_
 refine Reg.tk 3 rfl ?_
 refine Reg.step 4 rfl (by kernel_rfl) (by rfl) (fun K hK=> ?_)
 have z0:w7.cell? ⟨r2,0,none⟩=some (.int .i64 0):=Cells.cell Z7.out 0
 have z1:w7.cell? ⟨r2,1,none⟩=some (.int .i64 0):=Cells.cell Z7.out 1
 have z2:w7.cell? ⟨r2,2,none⟩=some (.int .i64 0):=Cells.cell Z7.out 2
 have z3:w7.cell? ⟨r2,3,none⟩=some (.slice none 0 0):=Cells.cell Z7.out 3
 have f0:w7.frozen? ⟨r2,0,none⟩=false:=Cells.frozen Z7.out 0
 have f1:w7.frozen? ⟨r2,1,none⟩=false:=Cells.frozen Z7.out 1
 have f2:w7.frozen? ⟨r2,2,none⟩=false:=Cells.frozen Z7.out 2
 have f3:w7.frozen? ⟨r2,3,none⟩=false:=Cells.frozen Z7.out 3
 go_simp
 have B8:But r2 w7 ((((w7.setCell ⟨r2,0,none⟩ (.int .i64 d.cap)).setCell ⟨r2,1,none⟩ (.int .i64 d.op)).setCell ⟨r2,2,none⟩ (.int .i64 d.ac)).setCell ⟨r2,3,none⟩ (.slice A d.n c')):=But.set4 w7 r2 (.int .i64 d.cap) (.int .i64 d.op) (.int .i64 d.ac) (.slice A d.n c')
 have hnd:=dev_not 0 0 0 none 0 0
 have Z8:Hid (Cells ((((w7.setCell ⟨r2,0,none⟩ (.int .i64 d.cap)).setCell ⟨r2,1,none⟩ (.int .i64 d.op)).setCell ⟨r2,2,none⟩ (.int .i64 d.ac)).setCell ⟨r2,3,none⟩ (.slice A d.n c')) r2 26 #[.int .i64 d.cap,.int .i64 d.op,.int .i64 d.ac,.slice A d.n c']):=Cells.set4 Z7.out _ _ _ _
 have E8:Hid (EBox ((((w7.setCell ⟨r2,0,none⟩ (.int .i64 d.cap)).setCell ⟨r2,1,none⟩ (.int .i64 d.op)).setCell ⟨r2,2,none⟩ (.int .i64 d.ac)).setCell ⟨r2,3,none⟩ (.slice A d.n c')) r3 0 0 none 0 0):=EBox.but E7.out B8 (by have:=hr3.out;omega)
 have DV8:Hid (DevAt ((((w7.setCell ⟨r2,0,none⟩ (.int .i64 d.cap)).setCell ⟨r2,1,none⟩ (.int .i64 d.op)).setCell ⟨r2,2,none⟩ (.int .i64 d.ac)).setCell ⟨r2,3,none⟩ (.slice A d.n c')) ⟨d.cap,d.op,d.ac,A,d.n,c',xs'⟩):=⟨RowS.butBlock DV7.out.row (fun q o e _=>by have:=HAq.out q o e;omega) B8,fun y hy=>Row.butBox (DV7.out.data y hy) Z7.out hnd B8⟩
 have RB8:Hid (DoneAt ((((w7.setCell ⟨r2,0,none⟩ (.int .i64 d.cap)).setCell ⟨r2,1,none⟩ (.int .i64 d.op)).setCell ⟨r2,2,none⟩ (.int .i64 d.ac)).setCell ⟨r2,3,none⟩ (.slice A d.n c')) e0):=Row.butBox RB7.out Z7.out hnd B8
 have D8:Hid (DBox ((((w7.setCell ⟨r2,0,none⟩ (.int .i64 d.cap)).setCell ⟨r2,1,none⟩ (.int .i64 d.op)).setCell ⟨r2,2,none⟩ (.int .i64 d.ac)).setCell ⟨r2,3,none⟩ (.slice A d.n c')) g6 ⟨d.cap,d.op,d.ac,A,d.n,c',xs'⟩):=Cells.but D7.out B8 (by have:=HG6.out;omega)
 have L8:Hid (Below w.heap.size w ((((w7.setCell ⟨r2,0,none⟩ (.int .i64 d.cap)).setCell ⟨r2,1,none⟩ (.int .i64 d.op)).setCell ⟨r2,2,none⟩ (.int .i64 d.ac)).setCell ⟨r2,3,none⟩ (.slice A d.n c'))):=below4 (g:=r2) L7.out (by have:=hr3.out;omega) _ _ _ _
 have K8:Hid (((((w7.setCell ⟨r2,0,none⟩ (.int .i64 d.cap)).setCell ⟨r2,1,none⟩ (.int .i64 d.op)).setCell ⟨r2,2,none⟩ (.int .i64 d.ac)).setCell ⟨r2,3,none⟩ (.slice A d.n c')).heap[b]? =wb):=(B8.block HBS7.out (by have:=HBq.out;omega)).trans K7.out
 have HBS8:Hid (b<((((w7.setCell ⟨r2,0,none⟩ (.int .i64 d.cap)).setCell ⟨r2,1,none⟩ (.int .i64 d.op)).setCell ⟨r2,2,none⟩ (.int .i64 d.ac)).setCell ⟨r2,3,none⟩ (.slice A d.n c')).heap.size):=Nat.lt_of_lt_of_le HBS7.out B8.by_.size
 clear z0 z1 z2 z3 f0 f1 f2 f3 hnd B8
 refine hK.out _ _ (hcell _ K8.out D8.out) (fun hHeld=> ?_)
 clear hK K
 (try simp only[Act.put,List.setIfInBounds_toArray,List.set_cons_zero,List.set_cons_succ])
 generalize(((w7.setCell ⟨r2,0,none⟩ (.int .i64 d.cap)).setCell ⟨r2,1,none⟩ (.int .i64 d.op)).setCell ⟨r2,2,none⟩ (.int .i64 d.ac)).setCell ⟨r2,3,none⟩ (.slice A d.n c')=w8 at*
 refine Reg.step 5 rfl (by kernel_rfl) (by rfl) (fun K hK=> ?_)
 obtain⟨z0,z1,z2⟩:=E8.out.cells
 obtain⟨f0,f1,f2⟩:=E8.out.frozen
 go_simp
 have B9:But r3 w8 (((w8.setCell ⟨r3,0,none⟩ (.int .i64 e0.p.e)).setCell ⟨r3,1,none⟩ (.int .i64 e0.p.at_)).setCell ⟨r3,2,none⟩ (.slice e0.B e0.p.b.length e0.k)):=But.set3 (But.refl r3 w8) 0 1 2 _ _ _
 have Z9:Hid (Cells (((w8.setCell ⟨r3,0,none⟩ (.int .i64 e0.p.e)).setCell ⟨r3,1,none⟩ (.int .i64 e0.p.at_)).setCell ⟨r3,2,none⟩ (.slice e0.B e0.p.b.length e0.k)) r2 26 #[.int .i64 d.cap,.int .i64 d.op,.int .i64 d.ac,.slice A d.n c']):=Cells.but Z8.out B9 (by have:=hr3.out;omega)
 have E9:Hid (EBox (((w8.setCell ⟨r3,0,none⟩ (.int .i64 e0.p.e)).setCell ⟨r3,1,none⟩ (.int .i64 e0.p.at_)).setCell ⟨r3,2,none⟩ (.slice e0.B e0.p.b.length e0.k)) r3 e0.p.e e0.p.at_ e0.B e0.p.b.length e0.k):=EBox.store E8.out _ _ _ _ _
 have DV9:Hid (DevAt (((w8.setCell ⟨r3,0,none⟩ (.int .i64 e0.p.e)).setCell ⟨r3,1,none⟩ (.int .i64 e0.p.at_)).setCell ⟨r3,2,none⟩ (.slice e0.B e0.p.b.length e0.k)) ⟨d.cap,d.op,d.ac,A,d.n,c',xs'⟩):=⟨RowS.butBlock DV8.out.row (fun q o e _=>by have:=HAq.out q o e;omega) B9,fun y hy=>EBox.row3 E8.out (DV8.out.data y hy) _ _ _ _ _⟩
 have RB9:Hid (DoneAt (((w8.setCell ⟨r3,0,none⟩ (.int .i64 e0.p.e)).setCell ⟨r3,1,none⟩ (.int .i64 e0.p.at_)).setCell ⟨r3,2,none⟩ (.slice e0.B e0.p.b.length e0.k)) e0):=EBox.row3 E8.out RB8.out _ _ _ _ _
 have D9:Hid (DBox (((w8.setCell ⟨r3,0,none⟩ (.int .i64 e0.p.e)).setCell ⟨r3,1,none⟩ (.int .i64 e0.p.at_)).setCell ⟨r3,2,none⟩ (.slice e0.B e0.p.b.length e0.k)) g6 ⟨d.cap,d.op,d.ac,A,d.n,c',xs'⟩):=Cells.but D8.out B9 (by have:=HG6.out;omega)
 have L9:Hid (Below w.heap.size w (((w8.setCell ⟨r3,0,none⟩ (.int .i64 e0.p.e)).setCell ⟨r3,1,none⟩ (.int .i64 e0.p.at_)).setCell ⟨r3,2,none⟩ (.slice e0.B e0.p.b.length e0.k))):=below3 (g:=r3) L8.out (by have:=hr3.out;omega) _ _ _
 have K9:Hid ((((w8.setCell ⟨r3,0,none⟩ (.int .i64 e0.p.e)).setCell ⟨r3,1,none⟩ (.int .i64 e0.p.at_)).setCell ⟨r3,2,none⟩ (.slice e0.B e0.p.b.length e0.k)).heap[b]? =wb):=(B9.block HBS8.out (by have:=HBq.out;omega)).trans K8.out
 have HBS9:Hid (b<(((w8.setCell ⟨r3,0,none⟩ (.int .i64 e0.p.e)).setCell ⟨r3,1,none⟩ (.int .i64 e0.p.at_)).setCell ⟨r3,2,none⟩ (.slice e0.B e0.p.b.length e0.k)).heap.size):=Nat.lt_of_lt_of_le HBS8.out B9.by_.size
 clear z0 z1 z2 f0 f1 f2 B9
 refine hK.out _ _ (hcell _ K9.out D9.out) (fun hHeld=> ?_)
 clear hK K
 (try simp only[Act.put,List.setIfInBounds_toArray,List.set_cons_zero,List.set_cons_succ])
 generalize((w8.setCell ⟨r3,0,none⟩ (.int .i64 e0.p.e)).setCell ⟨r3,1,none⟩ (.int .i64 e0.p.at_)).setCell ⟨r3,2,none⟩ (.slice e0.B e0.p.b.length e0.k)=w9 at*
 refine wpAnyH_done (by kernel_rfl) ?_ _
 clear hHeld
 go_wp2_with fail
 refine bodyPost_ret_by (results_two rfl _ _ r2 r3 _ _ _ _ _ _ _ _ rfl Z9.out Tryz.underlying26 rfl (by kernel_rfl) rfl E9.out Tryz.underlying51 rfl (by kernel_rfl)) rfl ?_
 exact⟨A,c',xs',e0.B,e0.k,by rw[HMP.out],DV9.out,HPZ.out,by rw[←HMP.out];exact RB9.out,L9.out,fun q o e=>by have:=(HAq.out q o e).1;have:=hr3.out.1;omega,HLO.out⟩
end Zns
end
section
open Go.RowKit Mem Zon Zns
namespace Pk
def zoneOf (M E:Int) (D:List B8):Zn:=⟨bif (D.length:Int)==0 then 0 else bif (D.length:Int)==M then 4 else 1,E,D⟩
def devP (M E:Int) (D:List B8):Dv:=⟨M,1,1,[nilZ,zoneOf M E D]⟩
theorem mayB_zone {M E:Int} {D:List B8} (h1:1≤M) (hD:(D.length:Int)≤M):mayB (zoneOf M E D).st (zoneOf M E D).len M=true:=by
 unfold zoneOf Zn.len mayB
 dsimp only
 rcases h0:((D.length:Int)==0)
 ·rcases hm:((D.length:Int)==M)
  ·rw[beq_eq_false_iff_ne] at h0 hm
   have e1:decide ((D.length:Int)<M)=true:=decide_eq_true (by omega)
   have e2:((D.length:Int)==0)=false:=beq_eq_false_iff_ne.2 h0
   simp only[cond_false,e1,e2]
   rfl
  ·have e1:decide ((D.length:Int)≤M)=true:=decide_eq_true hD
   simp only[cond_false,cond_true,e1]
   rfl
 ·rfl
theorem open_zone (M E:Int) (D:List B8):openB (zoneOf M E D)=(!((D.length:Int)==0)&& !((D.length:Int)==M)):=by
 unfold openB zoneOf
 dsimp only
 rcases((D.length:Int)==0)<;>rcases((D.length:Int)==M)<;>rfl
theorem act_zone (M E:Int) (D:List B8):actB (zoneOf M E D)=(!((D.length:Int)==0)&& !((D.length:Int)==M)):=by
 unfold actB
 rw[open_zone]
 unfold zoneOf
 dsimp only
 rcases((D.length:Int)==0)<;>rcases((D.length:Int)==M)<;>rfl
theorem appZ_dev {M E:Int} {D b:List B8} (hb:0<b.length):appZ (zoneOf M E D) M b=zoneOf M E (D++b):=by
 unfold appZ zoneOf Zn.len stB
 dsimp only
 have e0:(((D++b).length:Int)==0)=false:=beq_eq_false_iff_ne.2 (by rw[List.length_append];omega)
 have e1:((D++b).length:Int)=(D.length:Int)+(b.length:Int):=by rw[List.length_append];omega
 rw[e0,e1]
 rcases((D.length:Int)==0)<;>rcases((D.length:Int)==M)<;>rcases((D.length:Int)+(b.length:Int)==M)<;>rfl
structure Ld (h:Seg.Hdr) (M:Int) (ws:List Seg.Rc) (D:List B8) (p:Pp):Prop where
 pk:p=⟨h,1,M,(D.length:Int),p.buf,[]⟩
 all:D++p.buf=Seg.frame (Seg.headX h)++Seg.frames ws
 len:(D.length:Int)+(p.buf.length:Int)≤M
 ok:∀r∈ws,Seg.check r=0
section
variable {h:Seg.Hdr} {M:Int} {ws:List Seg.Rc} {D:List B8} {p:Pp}
structure Lw (h:Seg.Hdr) (M:Int) (ws:List Seg.Rc) (D:List B8) (p:Pp):Prop where
 hh:p.h=h
 zz:p.zone=1
 cc:p.cap=M
 at_:p.at_=(D.length:Int)
 all:D++p.buf=Seg.frame (Seg.headX h)++Seg.frames ws
 okp:OkP p
 ok:∀r∈ws,Seg.check r=0
 emp:p.buf.length=0→p.l= []
end
end Pk
end
section
open Go.RowKit Mem Zns Box
open Zon (Zn Zv cellsZ nilZ B8)
namespace Pk
open Seg (Hdr Rc Rv cellsOf cellsOf_len RowR hdV recV fits nums hnums nn goods frame headX recX frames check recB headB)
structure Bt where
 A:Option Addr
 n:Nat
 c:Nat
 xs:List Rv
def btv (b:Bt):Value:= .slice b.A b.n b.c
def cellsBt (b:Bt):List Value:= [.slice b.A b.n b.c]
structure BtAt (w:World) (b:Bt):Prop where
 row:RowR w b.A b.n b.c b.xs
 good:goods (b.xs.map Rv.r)
structure Apd (X:Dx) (r:Option Nat):Prop where
 zs:0<X.n→∀q o,X.A=some ⟨q,o,none⟩→r≠some q
 data:∀v∈X.xs,0<v.z.data.length→∀q o,v.D=some ⟨q,o,none⟩→r≠some q
structure Fre (b:Nat) (X:Dx):Prop where
 zs:∀q o,X.A=some ⟨q,o,none⟩→b≤q
 data:∀v∈X.xs,Lo b v.D
theorem Fre.apd {b:Nat} {X:Dx} {r:Option Nat} (h:Fre b X) (hr:∀q,r=some q→q<b):Apd X r:=
 ⟨fun _ q o e e2=>by have:=h.zs q o e;have:=hr q e2;omega,fun v hv _ q o e e2=>by have:=h.data v hv q o e;have:=hr q e2;omega⟩
theorem Fre.box {b g:Nat} {X:Dx} (h:Fre b X) (hg:g<b):Apd X (some g):=h.apd fun q e=>by injection e with e;omega
def Did2 (w:World) (p:Dv) (e:Int) (at_:Int) (b:List B8) (en:Ending) (w':World):Prop:=
 ∃(X:Dx) (B:Option Addr) (k:Nat),en= .returned (.tuple #[.agg #[.int .i64 X.cap,.int .i64 X.op,.int .i64 X.ac,.slice X.A X.n X.c],.agg #[.int .i64 e,.int .i64 at_,.slice B b.length k]])∧DevAt w' X∧X.p=p∧X.n=p.zs.length∧Row cb w' B b.length k b∧Fre w.heap.size X∧Below w.heap.size w w'
theorem do_2b {X:Dx} {x:Cx} {w:World} {p:Dv} {q:Dn} (hdo:DoesB x) (h:DevAt w X) (hn:X.n≤1000) (hc:CmdAt w x) (hok:okD X.p=true) (he:doP X.p x.c=(p,q)):
  Calls Tryz.prog 16 #[.agg #[.int .i64 X.cap,.int .i64 X.op,.int .i64 X.ac,.slice X.A X.n X.c],.agg #[.int .i64 x.c.d,.int .i64 x.c.zone,.int .i64 x.c.epoch,.int .i64 x.c.off,.int .i64 x.c.n,.slice x.B x.c.b.length x.k]] w (Did2 w p q.e q.at_ q.b):=by
 have:=do_by hdo h hn hc hok
 rw[he] at this
 refine this.mono ?_
 rintro e w' ⟨A,c,xs,B,k,rfl,hdev,hp,hrow,hb,hA,hLO⟩
 exact⟨⟨X.cap,X.op,X.ac,A,X.n,c,xs⟩,B,k,rfl,hdev,hp,by rw[←hdev.plen];exact congrArg (fun d:Dv=>d.zs.length) hp,hrow,⟨hA,hLO⟩,hb⟩
def set4W (w:World) (g:Nat) (a b c d:Value):World:=(((w.setCell ⟨g,0,none⟩ a).setCell ⟨g,1,none⟩ b).setCell ⟨g,2,none⟩ c).setCell ⟨g,3,none⟩ d
theorem set4 {w:World} {g:Nat} {t:TypeId} {a b c d:Value} (hc:Cells w g t #[a,b,c,d]) (a' b' c' d':Value):Cells (set4W w g a' b' c' d') g t #[a',b',c',d']:=by
 unfold set4W
 have h1:Cells (w.setCell ⟨g,0,none⟩ a') g t #[a',b,c,d]:=by simpa using hc.set_ 0 a'
 generalize w.setCell ⟨g,0,none⟩ a'=w1 at*
 have h2:Cells (w1.setCell ⟨g,1,none⟩ b') g t #[a',b',c,d]:=by simpa using h1.set_ 1 b'
 generalize w1.setCell ⟨g,1,none⟩ b'=w2 at*
 have h3:Cells (w2.setCell ⟨g,2,none⟩ c') g t #[a',b',c',d]:=by simpa using h2.set_ 2 c'
 generalize w2.setCell ⟨g,2,none⟩ c'=w3 at*
 simpa using h3.set_ 3 d'
theorem mov4 (w:World) (g:Nat) (a b c d:Value):Mov [g] w (set4W w g a b c d):=by
 have s:=fun(w:World) (i:Nat) (v:Value)=>Mov.set1 w (S:= [g]) (q:=g) (by simp) i v
 have tr:=fun {a b c:World} (h:Mov [g] a b) (k:Mov [g] b c)=>h.trans k (fun _ h=> .inl h)
 exact tr (tr (tr (s _ _ _) (s _ _ _)) (s _ _ _)) (s _ _ _)
def set3W (w:World) (g:Nat) (a b c:Value):World:=((w.setCell ⟨g,0,none⟩ a).setCell ⟨g,1,none⟩ b).setCell ⟨g,2,none⟩ c
end Pk
end
section
open Go.RowKit Mem Box Zns
namespace Rp
open Seg (Hdr Rc Rv fits nums hnums nn frame headX recX frames check headAt Scans sized)
open Pk (Pp zoneOf placeR flen places addP moreP behindP fitsP errB OkP beginP)
open Zon (Zn Zv B8 nilZ)
open Vm (exR)
open Ext (MayX)
theorem appZone {M op ac:Int} {zs:List Zn} {z:Nat} {D b:List B8} (h1:1≤M) (h2:M≤65536) (hok:okD ⟨M,op,ac,zs⟩=true) (hz:zs[z]? =some (zoneOf M 0 D)) (hb:0<b.length) (hD:(D.length:Int)+(b.length:Int)≤M) (hroom:Zon.openB (zoneOf M 0 D)=true∨((cO zs:Int)<op∧(cA zs:Int)<ac)):
  doP ⟨M,op,ac,zs⟩ ⟨1,(z:Int),0,0,0,b⟩=(⟨M,op,ac,zs.set z (zoneOf M 0 (D++b))⟩,⟨0,(D.length:Int),[]⟩):=by
 have ha:atI zs z=zoneOf M 0 D:=by unfold atI;rw[List.getD_eq_getElem?_getD,hz];rfl
 have hzl:z<zs.length:=(List.getElem?_eq_some_iff.1 hz).1
 have hoz:Zon.okB (zoneOf M 0 D) M=true:=by rw[Zon.ok_iff h1 h2 (Int.le_refl 0)];exact Pk.mayB_zone h1 (by omega)
 have hst:((zoneOf M 0 D).st==4)=false:=by
  unfold zoneOf
  have hm:((D.length:Int)==M)=false:=beq_eq_false_iff_ne.2 (by omega)
  dsimp only
  rw[hm]
  rcases((D.length:Int)==0)<;>rfl
 have he:Zon.appErr (zoneOf M 0 D) M b.length=0:=by
  unfold Zon.appErr
  rw[hoz,hst,beq_eq_false_iff_ne.2 (by omega:b.length≠0),decide_eq_false (show ¬M<(zoneOf M 0 D).len+(b.length:Int) by show ¬M<(D.length:Int)+(b.length:Int);omega)]
  rfl
 have hcl:toCl op ac zs (zoneOf M 0 D)=(-1,0):=by
  unfold toCl
  rcases ho:Zon.openB (zoneOf M 0 D)
  ·have hact:Zon.actB (zoneOf M 0 D)=false:=by rw[Pk.act_zone,←Pk.open_zone];exact ho
   rw[ho] at hroom
   rcases hroom with h|⟨h3,h4⟩
   ·cases h
   ·rw[hact,decide_eq_false (by omega:¬ac≤(cA zs:Int)),decide_eq_true h3]
    rfl
  ·rfl
 have hp:putO op ac zs z (Zon.appZ (zoneOf M 0 D) M b)=(zs.set z (zoneOf M 0 (D++b)),0):=by
  unfold putO
  rw[ha,hcl,Pk.appZ_dev hb]
  rfl
 have hadd:Zns.addP M op ac zs z ⟨1,(z:Int),0,0,0,b⟩=(zs.set z (zoneOf M 0 (D++b)),⟨0,(D.length:Int),[]⟩):=by
  unfold Zns.addP
  dsimp only
  rw[ha,he,hp]
  rfl
 have hs:stepP M op ac zs ⟨1,(z:Int),0,0,0,b⟩=(zs.set z (zoneOf M 0 (D++b)),⟨0,(D.length:Int),[]⟩):=by
  unfold stepP
  dsimp only
  rw[Int.toNat_natCast,ha,decide_eq_false (by omega:¬(z:Int)<0),decide_eq_false (by omega:¬(zs.length:Int)≤(z:Int)),show(!knownB 1||(false||false))=false from rfl,show(!((1:Int)==7)&& !((0:Int)==(zoneOf M 0 D).fc))=false from rfl]
  show actP M op ac zs z ⟨1,(z:Int),0,0,0,b⟩=_
  exact hadd
 unfold doP
 rw[hok]
 show(Dv.mk M op ac (stepP M op ac zs ⟨1,(z:Int),0,0,0,b⟩).1,(stepP M op ac zs ⟨1,(z:Int),0,0,0,b⟩).2)=_
 rw[hs]
theorem okD_app {M op ac:Int} {zs:List Zn} {z:Nat} {D b:List B8} (h1:1≤M) (h2:M≤65536) (hok:okD ⟨M,op,ac,zs⟩=true) (hz:zs[z]? =some (zoneOf M 0 D)) (hb:0<b.length) (hD:(D.length:Int)+(b.length:Int)≤M) (hroom:Zon.openB (zoneOf M 0 D)=true∨((cO zs:Int)<op∧(cA zs:Int)<ac)):okD ⟨M,op,ac,zs.set z (zoneOf M 0 (D++b))⟩=true:=by
 obtain⟨o1,o2,o3,o4⟩:=okD_parts.1 hok
 dsimp only at o1 o2 o3 o4
 have hzl:z<zs.length:=(List.getElem?_eq_some_iff.1 hz).1
 have hze:zs[z]=zoneOf M 0 D:=(List.getElem?_eq_some_iff.1 hz).2
 have key:∀p:Zn→Bool,(zs.set z (zoneOf M 0 (D++b))).countP p≤zs.countP p+1∧(p (zoneOf M 0 D)=true→(zs.set z (zoneOf M 0 (D++b))).countP p≤zs.countP p):=by
  intro p
  rw[List.countP_set hzl,hze]
  refine⟨by split<;>split<;>omega,fun hp=> ?_⟩
  have h1:0<zs.countP p:=List.countP_pos_iff.2 ⟨_,List.mem_of_getElem? hz,hp⟩
  rw[if_pos hp]
  split<;>omega
 have ho:Zon.openB (zoneOf M 0 D)=true→Zon.actB (zoneOf M 0 D)=true:=fun h=>by rw[Pk.act_zone,←Pk.open_zone];exact h
 refine okD_parts.2 ⟨by rw[List.length_set];exact o1,fun y hy=> ?_,?_,?_⟩
 ·rcases List.mem_or_eq_of_mem_set hy with q|rfl
  ·exact o2 y q
  ·show Zon.okB _ M=true
   rw[Zon.ok_iff h1 h2 (Int.le_refl 0)]
   exact Pk.mayB_zone h1 (by rw[List.length_append];omega)
 ·have k:=key Zon.openB
  have o3':((zs.countP Zon.openB:Nat):Int)≤op:=o3
  show(((zs.set z (zoneOf M 0 (D++b))).countP Zon.openB:Nat):Int)≤op
  rcases hroom with q|⟨q,-⟩
  ·have:=k.2 q;omega
  ·have q':((zs.countP Zon.openB:Nat):Int)<op:=q
   have:=k.1;omega
 ·have k:=key Zon.actB
  have o4':((zs.countP Zon.actB:Nat):Int)≤ac:=o4
  show(((zs.set z (zoneOf M 0 (D++b))).countP Zon.actB:Nat):Int)≤ac
  rcases hroom with q|⟨-,q⟩
  ·have:=k.2 (ho q);omega
  ·have q':((zs.countP Zon.actB:Nat):Int)<ac:=q
   have:=k.1;omega
theorem room_all {M:Int} {zs:List Zn} {z:Nat} {D:List B8} (hz:zs[z]? =some (zoneOf M 0 D)):Zon.openB (zoneOf M 0 D)=true∨((cO zs:Int)<(zs.length:Int)∧(cA zs:Int)<(zs.length:Int)):=by
 rcases ho:Zon.openB (zoneOf M 0 D)
 ·have hact:Zon.actB (zoneOf M 0 D)=false:=by rw[Pk.act_zone,←Pk.open_zone];exact ho
  have hm:=List.mem_of_getElem? hz
  refine .inr ⟨?_,?_⟩
  ·have h1:cO zs≤zs.length:=List.countP_le_length
   have h2:cO zs≠zs.length:=fun e=>by
    have:=(List.countP_eq_length.1 (show zs.countP Zon.openB=zs.length from e)) _ hm
    rw[ho] at this;cases this
   omega
  ·have h1:cA zs≤zs.length:=List.countP_le_length
   have h2:cA zs≠zs.length:=fun e=>by
    have:=(List.countP_eq_length.1 (show zs.countP Zon.actB=zs.length from e)) _ hm
    rw[hact] at this;cases this
   omega
 ·exact .inl rfl
def hz (z:Nat):Hdr:=⟨(z:Int),0,0⟩
def datZ (z:Nat):List Rc→List B8
 | []=> []
 |r::rs=>frame (headX (hz z))++frames (r::rs)
def fdZ (z:Nat):List Rc→Fd
 | []=>Fd.no
 |r::rs=>Fd.seg (hz z) (r::rs)
abbrev Lg:=List (Nat × Rc)
def rsOf (L:Lg) (z:Nat):List Rc:=(L.filter fun x=>x.1==z).map Prod.snd
theorem rsOf_snoc (L:Lg) (z:Nat) (r:Rc) (i:Nat):rsOf (L++ [(z,r)]) i=if i=z then rsOf L z++ [r] else rsOf L i:=by
 unfold rsOf
 rw[List.filter_append,List.map_append]
 by_cases h:i=z
 ·subst h
  rw[if_pos rfl];simp
 ·rw[if_neg h]
  have:((z==i)=false):=by simpa using Ne.symm h
  simp[this]
def zsOf (n:Nat) (L:Lg):List Zn:=(List.range n).map fun z=>zoneOf 4000 0 (datZ z (rsOf L z))
def fsOf (n:Nat) (L:Lg):List Fd:=(List.range n).map fun z=>fdZ z (rsOf L z)
def dvOf (n:Nat) (L:Lg):Dv:=⟨4000,(n:Int),(n:Int),zsOf n L⟩
theorem zsOf_len (n:Nat) (L:Lg):(zsOf n L).length=n:=by simp[zsOf]
theorem zsOf_get {n z:Nat} (L:Lg) (h:z<n):(zsOf n L)[z]? =some (zoneOf 4000 0 (datZ z (rsOf L z))):=by
 unfold zsOf
 rw[List.getElem?_map,List.getElem?_range h];rfl
theorem fsOf_get {n z:Nat} (L:Lg) (h:z<n):(fsOf n L)[z]? =some (fdZ z (rsOf L z)):=by
 unfold fsOf
 rw[List.getElem?_map,List.getElem?_range h];rfl
theorem zsOf_set {n z:Nat} (L:Lg) (r:Rc) (h:z<n):(zsOf n L).set z (zoneOf 4000 0 (datZ z (rsOf L z++ [r])))=zsOf n (L++ [(z,r)]):=by
 apply List.ext_getElem?
 intro i
 rw[List.getElem?_set]
 by_cases hi:i<n
 ·rw[zsOf_get (L++ [(z,r)]) hi,rsOf_snoc]
  by_cases e:z=i
  ·subst e
   rw[if_pos rfl,if_pos (by rw[zsOf_len];exact h),if_pos rfl]
  ·rw[if_neg e,if_neg (Ne.symm e),zsOf_get L hi]
 ·have h1:(zsOf n L).length≤i:=by rw[zsOf_len];omega
  have h2:(zsOf n (L++ [(z,r)])).length≤i:=by rw[zsOf_len];omega
  rw[if_neg (by omega),List.getElem?_eq_none h1,List.getElem?_eq_none h2]
theorem dv_new {n:Nat} (h1:1≤n) (h2:n≤4):newP (n:Int) 4000 (n:Int) (n:Int)=dvOf n []∧boundsB (n:Int) 4000 (n:Int) (n:Int)=true:=by
 have hb:boundsB (n:Int) 4000 (n:Int) (n:Int)=true:=bounds_parts.2 (by omega)
 refine⟨?_,hb⟩
 unfold newP
 rw[hb,Int.toNat_natCast]
 show Dv.mk 4000 (n:Int) (n:Int) (List.replicate n nilZ)=Dv.mk 4000 (n:Int) (n:Int) (zsOf n [])
 congr 1
 apply List.ext_getElem?
 intro i
 rw[List.getElem?_replicate]
 split
 ·rename_i h
  rw[zsOf_get _ h];rfl
 ·rename_i h
  rw[List.getElem?_eq_none (by rw[zsOf_len];omega)]
theorem dv_ok0 {n:Nat} (h1:1≤n) (h2:n≤4):okD (dvOf n [])=true:=by
 refine okD_parts.2 ⟨?_,fun z hz=> ?_,?_,?_⟩
 ·show boundsB ((zsOf n []).length:Int) _ _ _=true
  rw[zsOf_len];exact(dv_new h1 h2).2
 ·obtain⟨i,hi⟩:=List.getElem?_of_mem hz
  have hin:i<n:=by have:=(List.getElem?_eq_some_iff.1 hi).1;rwa [show(dvOf n []).zs=zsOf n [] from rfl,zsOf_len] at this
  rw[show(dvOf n []).zs=zsOf n [] from rfl,zsOf_get _ hin] at hi
  injection hi with hi
  subst hi
  rfl
 ·have:cO (zsOf n [])≤(zsOf n []).length:=List.countP_le_length
  rw[zsOf_len] at this
  show(cO (zsOf n []):Int)≤(n:Int)
  omega
 ·have:cA (zsOf n [])≤(zsOf n []).length:=List.countP_le_length
  rw[zsOf_len] at this
  show(cA (zsOf n []):Int)≤(n:Int)
  omega
def packZ (z:Nat):List Rc→Pp
 | []=>⟨hz z,(z:Int),4000,0,frame (headX (hz z)),[]⟩
 |r::rs=>⟨hz z,(z:Int),4000,((datZ z (r::rs)).length:Int),[],[]⟩
theorem hz_nn (z:Nat):nn (hnums (hz z)):=by intro x hx;simp[hnums,hz] at hx;omega
theorem hz_fits {z:Nat} (h:z<4):fits (hnums (hz z)):=by intro x hx;simp[hnums,hz] at hx;omega
theorem hz_len {z:Nat} (h:z<4):(frame (headX (hz z))).length≤100:=Pk.head_len (hz_fits h) (hz_nn z)
theorem begin_z {z:Nat} (h:z<4):beginP (hz z) (z:Int) 4000=(packZ z [],0):=by
 have:=hz_len h
 unfold beginP
 rw[if_pos (hz_nn z),if_pos (show Pk.mayZ (z:Int) 4000 by unfold Pk.mayZ;omega),if_pos (by omega)]
 rfl
theorem pack_parts (z:Nat) (rs:List Rc) (r:Rc):datZ z rs++((packZ z rs).buf++frames [r])=datZ z (rs++ [r])∧(packZ z rs).at_=((datZ z rs).length:Int)∧(packZ z rs).l= []∧(packZ z rs).h=hz z∧(packZ z rs).zone=(z:Int)∧(packZ z rs).cap=4000:=by
 cases rs with
 |nil=>exact⟨rfl,rfl,rfl,rfl,rfl,rfl⟩
 |cons a rs=>
  refine⟨?_,rfl,rfl,rfl,rfl,rfl⟩
  show(frame (headX (hz z))++frames (a::rs))++([]++frames [r])=frame (headX (hz z))++frames (a::rs++ [r])
  rw[List.nil_append,Seg.frames_append,List.append_assoc]
theorem pack_behind (z:Nat) (rs:List Rc) (r:Rc):behindP (moreP (packZ z rs) [r])=packZ z (rs++ [r]):=by
 obtain⟨h1,h2,h3,h4,h5,h6⟩:=pack_parts z rs r
 have hl:=congrArg List.length h1
 simp only[List.length_append] at hl
 obtain⟨a,t,ht⟩:∃a t,rs++ [r]=a::t:=by cases rs<;>exact⟨_,_,rfl⟩
 have e:packZ z (rs++ [r])=⟨hz z,(z:Int),4000,((datZ z (rs++ [r])).length:Int),[],[]⟩:=by rw[ht];rfl
 rw[e]
 unfold behindP moreP
 dsimp only
 rw[h2,h4,h5,h6]
 congr 1
 rw[List.length_append]
 omega
theorem pack_ok {z:Nat} {rs:List Rc} (hz:z<4) (h:(datZ z rs).length≤4000):OkP (packZ z rs):=by
 have h0:=hz_len hz
 cases rs with
 |nil=>exact⟨by show(0:Int)≤0;omega,by show(0:Int)+((frame (headX (Rp.hz z))).length:Int)≤4000;omega,by show(4000:Int)≤65536;omega,by show 0≤_;omega,by intro r hr;cases hr⟩
 |cons a t=>exact⟨by show(0:Int)≤((datZ z (a::t)).length:Int);omega,by show((datZ z (a::t)).length:Int)+((0:Nat):Int)≤4000;omega,by show(4000:Int)≤65536;omega,by show 0≤_;omega,by intro r hr;cases hr⟩
theorem pack_fits (z:Nat) (rs:List Rc) (r:Rc):fitsP (packZ z rs) [r]↔(datZ z (rs++ [r])).length≤4000:=by
 obtain⟨h1,h2,h3,h4,h5,h6⟩:=pack_parts z rs r
 have hl:=congrArg List.length h1
 simp only[List.length_append] at hl
 unfold fitsP
 rw[h2,h6]
 omega
theorem more_buf (z:Nat) (rs:List Rc) (r:Rc):(moreP (packZ z rs) [r]).buf=(packZ z rs).buf++frames [r]∧0<(moreP (packZ z rs) [r]).buf.length:=by
 refine⟨rfl,?_⟩
 show 0<((packZ z rs).buf++frames [r]).length
 have:=Pk.flen_ge r
 rw[List.length_append,Pk.frames_one]
 omega
structure WR (i:Int) (r:Rc):Prop where
 ver:r.ver=i
 i1:1≤i
 i2:i≤1000000
 l0:0≤r.lba
 l1:r.lba<50
 n1:1≤r.n
 n5:r.n≤5
 zone:r.zone=0
 off:r.off=0
 is:(r.kind=1∧∃b:B8,r.data=List.replicate (16*r.n.toNat) b)∨(r.kind=2∧r.data= [])
section
variable {i:Int} {r:Rc}
theorem WR.nn (h:WR i r):nn (nums r):=by
 intro x hx
 have:=h.ver;have:=h.i1;have:=h.l0;have:=h.n1;have:=h.zone;have:=h.off
 have hk:r.kind=1∨r.kind=2:=h.is.imp And.left And.left
 simp[nums] at hx
 omega
theorem WR.fits (h:WR i r):fits (nums r):=by
 intro x hx
 have:=h.ver;have:=h.i2;have:=h.l1;have:=h.n5;have:=h.zone;have:=h.off
 have hk:r.kind=1∨r.kind=2:=h.is.imp And.left And.left
 simp[nums] at hx
 omega
theorem WR.check (h:WR i r):check r=0:=by
 have h2:=h.l1;have h3:=h.n1;have h4:=h.n5;have h5:=h.zone;have h6:=h.off
 have hno:Seg.nowhereB r=true:=by unfold Seg.nowhereB;rw[h5,h6];rfl
 have hbl:∀m:Int,5≤m→Seg.blocksB r m=true:=fun m hm=>by
  unfold Seg.blocksB
  simp only[Bool.and_eq_true,decide_eq_true_eq]
  omega
 rcases h.is with⟨hk,b,hd⟩|⟨hk,hd⟩
 ·have hmay:Seg.mayB r=true:=by
    unfold Seg.mayB
    rw[if_pos h.nn,if_pos hk,hno,hbl 256 (by omega)];rfl
  unfold Seg.check
  rw[if_pos hmay,if_neg (by omega),if_pos]
  unfold Seg.bytesOf
  rw[if_pos hk,hd,List.length_replicate]
  omega
 ·have hmay:Seg.mayB r=true:=by
    unfold Seg.mayB
    rw[if_pos h.nn,if_neg (by omega),if_pos hk,hno,hbl _ (by omega)];rfl
  unfold Seg.check
  rw[if_pos hmay,if_neg (by omega),if_pos]
  unfold Seg.bytesOf
  rw[if_neg (by omega),if_neg (by omega),hd];rfl
theorem WR.good (h:WR i r):Seg.good r:=⟨h.check,h.fits⟩
end
structure LgOk (n m:Nat) (L:Lg):Prop where
 at_:∀x∈L,x.1<n∧WR x.2.ver x.2∧x.2.ver≤(m:Int)
 rise:L.Pairwise fun x y=>x.2.ver<y.2.ver
 few:L.length≤m
 room:∀z,z<n→(datZ z (rsOf L z)).length≤4000
theorem LgOk.nil {n:Nat}:LgOk n 0 []:=⟨by simp,List.Pairwise.nil,Nat.le_refl _,fun z _=>by simp[rsOf,datZ]⟩
theorem LgOk.later {n m:Nat} {L:Lg} (h:LgOk n m L):LgOk n (m+1) L:=⟨fun x hx=>⟨(h.at_ x hx).1,(h.at_ x hx).2.1,by have:=(h.at_ x hx).2.2;omega⟩,h.rise,by have:=h.few;omega,h.room⟩
theorem LgOk.more {n m:Nat} {L:Lg} (h:LgOk n m L) {z:Nat} {r:Rc} (hz:z<n) (hw:WR ((m:Int)+1) r) (hf:(datZ z (rsOf L z++ [r])).length≤4000):LgOk n (m+1) (L++ [(z,r)]):=by
 refine⟨fun x hx=> ?_,List.pairwise_append.2 ⟨h.rise,List.pairwise_singleton _ _,fun a ha b hb=> ?_⟩,by rw[List.length_append];have:=h.few;simp;omega,fun i hi=> ?_⟩
 ·rcases List.mem_append.1 hx with q|q
  ·exact h.later.at_ x q
  ·rw[List.mem_singleton.1 q]
   exact⟨hz,by rw[hw.ver];exact hw,by show r.ver≤_;rw[hw.ver];omega⟩
 ·rw[List.mem_singleton.1 hb]
  have:=(h.at_ a ha).2.2
  show a.2.ver<r.ver
  rw[hw.ver];omega
 ·rw[rsOf_snoc]
  split
  ·rename_i e;subst e;exact hf
  ·exact h.room i hi
theorem LgOk.recs {n m:Nat} {L:Lg} (h:LgOk n m L) {z:Nat}:∀r∈rsOf L z,WR r.ver r∧r.ver≤(m:Int):=by
 intro r hr
 obtain⟨x,hx,rfl⟩:=List.mem_map.1 hr
 exact(h.at_ x (List.mem_filter.1 hx).1).2
theorem one_nil:Seg.one []=none:=by decide
theorem holds_z {n m:Nat} {L:Lg} (h:LgOk n m L) {z:Nat} (hz:z<4):HoldsF (datZ z (rsOf L z)) (fdZ z (rsOf L z)):=by
 have hg:∀r∈rsOf L z,Seg.good r:=fun r hr=>(h.recs r hr).1.good
 generalize rsOf L z=rs at*
 cases rs with
 |nil=>exact holds_nil
 |cons a t=>
  have:=Seg.scans_frames [] one_nil (a::t) hg
  rw[List.append_nil] at this
  exact .seg (hz_fits hz) (hz_nn z) this
theorem dev_of {n m:Nat} {L:Lg} (h:LgOk n m L) (hn:n≤4) {X:Dx} {w:World} (hX:DevAt w X) (hp:X.p=dvOf n L) (hok:okD (dvOf n L)=true):Dev w X (fsOf n L):=by
 have hlen:X.n=n:=by rw[←hX.plen,hp];exact zsOf_len n L
 refine⟨hX,by rw[hp];exact hok,fun i v hv=> ?_,by rw[hlen];simp[fsOf]⟩
 have hin:i<n:=by
  have:=(List.getElem?_eq_some_iff.1 hv).1
  have:=hX.row.len
  omega
 have hz:v.z=zoneOf 4000 0 (datZ i (rsOf L i)):=by
  have e:=congrArg (fun d:Dv=>d.zs[i]?) hp
  have e1:X.p.zs[i]? =some v.z:=by show(X.xs.map Zv.z)[i]? =_;rw[List.getElem?_map,hv];rfl
  have e2:(dvOf n L).zs[i]? =_:=zsOf_get L hin
  exact Option.some.inj (e1.symm.trans (e.trans e2))
 refine⟨_,fsOf_get L hin,?_⟩
 have hd:v.z.data=datZ i (rsOf L i):=by rw[hz];rfl
 rw[hd]
 exact holds_z h (by omega)
theorem app_of {n:Nat} {L:Lg} (hn0:1≤n) (hok:okD (dvOf n L)=true) {z:Nat} {r:Rc} (hz:z<n) (hf:(datZ z (rsOf L z++ [r])).length≤4000):
  doP (dvOf n L) ⟨1,(z:Int),0,0,0,(moreP (packZ z (rsOf L z)) [r]).buf⟩=(dvOf n (L++ [(z,r)]),⟨0,((datZ z (rsOf L z)).length:Int),[]⟩)∧okD (dvOf n (L++ [(z,r)]))=true:=by
 obtain⟨h1,-⟩:=pack_parts z (rsOf L z) r
 obtain⟨hb,hb0⟩:=more_buf z (rsOf L z) r
 have hl:=congrArg List.length h1
 rw[List.length_append,←hb] at hl
 have hroom:=room_all (M:=4000) (zsOf_get L hz)
 rw[zsOf_len] at hroom
 have hD:((datZ z (rsOf L z)).length:Int)+((moreP (packZ z (rsOf L z)) [r]).buf.length:Int)≤4000:=by omega
 have ha:=appZone (by omega) (by omega) hok (zsOf_get L hz) hb0 hD hroom
 have hk:=okD_app (by omega) (by omega) hok (zsOf_get L hz) hb0 hD hroom
 rw[hb,h1,zsOf_set L r hz] at ha hk
 rw[hb]
 exact⟨ha,hk⟩
end Rp
end
section
open Go.RowKit Mem Zns
namespace Rp
open Seg (Hdr Rc Rv fits nums hnums nn frame headX recX frames check)
open Pk (zoneOf placeR flen)
open Zon (Zn Zv B8)
open Vm (exR)
open Ext (MayX)
theorem mem_trs {z:Int}:∀ {l:List Rc} {e:Int} {x:Tr},x∈trs z e l→∃(k:Nat) (r:Rc),l[k]? =some r∧x=(r,z,e+((frames (l.take k)).length:Int)+placeR r)
 | [],_,_,h=>by cases h
 |a::l,e,x,h=>by
  rcases List.mem_cons.1 h with rfl|h
  ·exact⟨0,a,rfl,by simp[Pk.frames_nil]⟩
  ·obtain⟨k,r,h1,h2⟩:=mem_trs h
   refine⟨k+1,r,by simpa using h1,?_⟩
   rw[h2,List.take_succ_cons,Pk.frames_len_cons]
   congr 2
   omega
theorem tr_in {h z:Nat} {rs:List Rc} {x:Tr} (hx:x∈trF z (fdZ h rs)):x.1∈rs∧x.2.1=(z:Int)∧0≤x.2.2∧x.2.2+(x.1.data.length:Int)≤((datZ h rs).length:Int)∧((datZ h rs).drop x.2.2.toNat).take x.1.data.length=x.1.data:=by
 cases rs with
 |nil=>cases hx
 |cons a t=>
  obtain⟨k,r,hr,rfl⟩:=mem_trs (show x∈trs (z:Int) ((frame (headX (hz h))).length:Int) (a::t) from hx)
  generalize a::t=ws at*
  have hk:k<ws.length:=(List.getElem?_eq_some_iff.1 hr).1
  have hw:ws=ws.take k++r::ws.drop (k+1):=by
   have e:ws[k]=r:=by have:=List.getElem?_eq_getElem hk;rw[hr] at this;injection this with this;exact this.symm
   rw[←e,List.getElem_cons_drop hk,List.take_append_drop]
  have hne:datZ h ws=frame (headX (hz h))++frames ws:=by
   cases ws with
   |nil=>simp at hk
   |cons b u=>rfl
  have hD:datZ h ws=(frame (headX (hz h))++frames (ws.take k))++(frame (recX r)++frames (ws.drop (k+1))):=by
   rw[hne]
   conv=>lhs;rw[hw]
   rw[Seg.frames_append,Seg.frames_cons,List.append_assoc]
  have hp1:=Pk.placeR_ge r
  have hp2:=Pk.placeR_le r
  unfold flen at hp2
  have hlen:((datZ h ws).length:Int)=((frame (headX (hz h))).length:Int)+((frames (ws.take k)).length:Int)+((frame (recX r)).length:Int)+((frames (ws.drop (k+1))).length:Int):=by
   rw[hD]
   simp only[List.length_append]
   omega
  dsimp only
  refine⟨List.mem_of_getElem? hr,rfl,by omega,by omega,?_⟩
  have ho':(((frame (headX (hz h))).length:Int)+((frames (ws.take k)).length:Int)+placeR r).toNat=(frame (headX (hz h))++frames (ws.take k)).length+(placeR r).toNat:=by
   rw[List.length_append]
   omega
  rw[ho',←List.drop_drop]
  conv=>lhs;rw[hD]
  rw[List.drop_left,List.drop_append_of_le_length (by omega),List.take_append_of_le_length (by rw[List.length_drop];omega)]
  exact Pk.place_data r
theorem fdAt_of {n z:Nat} (L:Lg) (h:z<n):fdAt (fsOf n L) z=fdZ z (rsOf L z):=by
 unfold fdAt
 rw[List.getD_eq_getElem?_getD,fsOf_get L h];rfl
theorem mem_trAll {n:Nat} {L:Lg} {x:Tr} (hx:x∈trAll (fsOf n L) (List.range n)):∃z,z<n∧x∈trF z (fdZ z (rsOf L z)):=by
 obtain⟨z,hz,h⟩:=List.mem_flatMap.1 hx
 have hzn:=List.mem_range.1 hz
 rw[fdAt_of L hzn] at h
 exact⟨z,hzn,h⟩
theorem exR_may {r:Rc} {z:Nat} {o:Int} (h:WR r.ver r) (hz:z<1000) (ho:0≤o) (ho1:o≤100000):MayX (exR r (z:Int) o):=by
 have:=h.l0;have:=h.l1;have:=h.n1;have:=h.n5;have:=h.i1
 rcases h.is with⟨hk,-⟩|⟨hk,-⟩
 ·have e:exR r (z:Int) o=⟨r.lba,r.n,r.ver,(z:Int),o⟩:=by unfold exR;rw[hk];rfl
  rw[e]
  exact⟨by assumption,by assumption,by show r.lba+r.n≤_;omega,by show 0≤r.ver;omega,.inr ⟨by show(0:Int)≤(z:Int);omega,by show(z:Int)≤_;omega,ho,by show o+16*r.n≤_;omega⟩⟩
 ·have e:exR r (z:Int) o=⟨r.lba,r.n,r.ver,-1,0⟩:=by unfold exR;rw[hk];rfl
  rw[e]
  exact⟨by assumption,by assumption,by show r.lba+r.n≤_;omega,by show 0≤r.ver;omega,.inl ⟨rfl,rfl⟩⟩
section
variable {n m:Nat} {L:Lg}
theorem LgOk.tr (h:LgOk n m L) {x:Tr} (hx:x∈trAll (fsOf n L) (List.range n)):∃z,z<n∧x.1∈rsOf L z∧WR x.1.ver x.1∧x.2.1=(z:Int)∧0≤x.2.2∧x.2.2+(x.1.data.length:Int)≤((datZ z (rsOf L z)).length:Int)∧((datZ z (rsOf L z)).drop x.2.2.toNat).take x.1.data.length=x.1.data:=by
 obtain⟨z,hz,h1⟩:=mem_trAll hx
 obtain⟨h2,h3,h4,h5,h6⟩:=tr_in h1
 exact⟨z,hz,h2,(h.recs _ h2).1,h3,h4,h5,h6⟩
theorem good_of (h:LgOk n m L) (hn:n≤4):AllGood (fsOf n L) (List.range n):=by
 intro x hx
 obtain⟨z,hz,h2,hw,h3,h4,h5,-⟩:=h.tr hx
 have hr:=h.room z hz
 refine⟨hw.fits,hw.check,hw.is.imp And.left And.left,by omega,h4,by omega,?_⟩
 rw[h3]
 exact exR_may hw (by omega) h4 (by omega)
theorem part_perm:∀(n:Nat) (L:Lg),(∀x∈L,x.1<n)→((List.range n).flatMap fun z=>L.filter fun x=>x.1==z).Perm L
 |0,L,h=>by
  have:L= []:=List.eq_nil_iff_forall_not_mem.2 fun x hx=>by have:=h x hx;omega
  subst this
  exact List.Perm.refl _
 |n+1,L,h=>by
  rw[List.range_succ,List.flatMap_append]
  have e1:((List.range n).flatMap fun z=>L.filter fun x=>x.1==z)=(List.range n).flatMap fun z=>(L.filter fun x=>decide (x.1<n)).filter fun x=>x.1==z:=by
   refine Ext.fm_congr fun z hz=> ?_
   rw[List.filter_filter]
   refine List.filter_congr fun x _=> ?_
   have:=List.mem_range.1 hz
   by_cases e:x.1=z
   ·rw[decide_eq_true (by omega),Bool.and_true]
   ·have:(x.1==z)=false:=by simpa using e
    rw[this];rfl
  have p1:=part_perm n (L.filter fun x=>decide (x.1<n)) (fun x hx=>by have:=(List.mem_filter.1 hx).2;simpa using this)
  have e2:([n].flatMap fun z=>L.filter fun x=>x.1==z)=L.filter fun x=> !decide (x.1<n):=by
   rw[List.flatMap_cons,List.flatMap_nil,List.append_nil]
   refine List.filter_congr fun x hx=> ?_
   have:=h x hx
   by_cases e:x.1=n
   ·rw[decide_eq_false (by omega)];simpa using e
   ·rw[decide_eq_true (by omega)];simpa using e
  rw[e1,e2]
  exact(p1.append_right _).trans (List.filter_append_perm (fun x:Nat × Rc=>decide (x.1<n)) L)
theorem trAll_perm (h:LgOk n m L):((trAll (fsOf n L) (List.range n)).map fun x:Tr=>(x.2.1.toNat,x.1)).Perm L:=by
 have e:((trAll (fsOf n L) (List.range n)).map fun x:Tr=>(x.2.1.toNat,x.1))=(List.range n).flatMap fun z=>L.filter fun x=>x.1==z:=by
  unfold trAll
  rw[List.map_flatMap]
  refine Ext.fm_congr fun z hz=> ?_
  rw[fdAt_of L (List.mem_range.1 hz)]
  have key:∀(e:Int) (rs:List Rc),(trs (z:Int) e rs).map (fun x:Tr=>(x.2.1.toNat,x.1))=rs.map fun r=>(z,r):=by
   intro e rs
   induction rs generalizing e with
   |nil=>rfl
   |cons a t ih=>rw[trs,List.map_cons,ih,List.map_cons];rfl
  have k2:∀rs:List Rc,(trF z (fdZ z rs)).map (fun x:Tr=>(x.2.1.toNat,x.1))=rs.map fun r=>(z,r):=fun rs=>by
   cases rs with
   |nil=>rfl
   |cons a t=>exact key _ _
  rw[k2]
  unfold rsOf
  rw[List.map_map]
  have:∀l:Lg,(∀x∈l,x.1=z)→l.map ((fun r:Rc=>(z,r))∘Prod.snd)=l:=by
   intro l hl
   refine(List.map_congr_left fun x hx=> ?_).trans (List.map_id l)
   show(z,x.2)=x
   rw[←hl x hx]
  exact this _ fun x hx=>by simpa using(List.mem_filter.1 hx).2
 rw[e]
 exact part_perm n L fun x hx=>(h.at_ x hx).1
theorem trAll_len (h:LgOk n m L):(trAll (fsOf n L) (List.range n)).length=L.length:=by
 have:=(trAll_perm h).length_eq
 rwa [List.length_map] at this
theorem mem_tr (h:LgOk n m L) {x:Nat × Rc}:x∈L↔∃y∈trAll (fsOf n L) (List.range n),y.2.1=(x.1:Int)∧y.1=x.2:=by
 rw[←(trAll_perm h).mem_iff,List.mem_map]
 constructor
 ·rintro⟨y,hy,rfl⟩
  obtain⟨z,-,-,-,h3,-⟩:=h.tr hy
  exact⟨y,hy,by show y.2.1=((y.2.1.toNat:Nat):Int);omega,rfl⟩
 ·rintro⟨y,hy,h1,h2⟩
  exact⟨y,hy,by rw[h1,h2];rfl⟩
end
end Rp
end
section
open Go.RowKit Mem Box Zns
namespace Rp
open Zon (B8)
def halfB (b:B8) (n k:Nat):Array Value:=((List.replicate k b++List.replicate (n-k) 0#8).map cb).toArray
theorem half_get {b:B8} {n k:Nat} (h:k<n):(halfB b n k)[k]? =some (.int .u8 0):=by
 unfold halfB
 rw[List.getElem?_toArray,List.getElem?_map,List.getElem?_append_right (by simp),List.length_replicate,Nat.sub_self,List.getElem?_replicate,if_pos (by omega)]
 rfl
theorem half_set {b:B8} {n k:Nat} (h:k<n):(halfB b n k).setIfInBounds k (cb b)=halfB b n (k+1):=by
 apply Array.toList_inj.1
 apply List.ext_getElem?
 intro i
 unfold halfB
 simp only[Array.toList_setIfInBounds,List.getElem?_set,List.getElem?_map,List.length_map,List.length_append,List.length_replicate]
 by_cases e:k=i
 ·subst e
  rw[if_pos rfl,if_pos (by omega),List.getElem?_append_left (by simp),List.getElem?_replicate,if_pos (by omega)];rfl
 ·rw[if_neg e]
  congr 1
  rcases Nat.lt_or_ge i k with q|q
  ·rw[List.getElem?_append_left (by simpa using q),List.getElem?_append_left (by simp;omega),List.getElem?_replicate,List.getElem?_replicate,if_pos q,if_pos (by omega)]
  ·rw[List.getElem?_append_right (by simpa using q),List.getElem?_append_right (by simp;omega),List.getElem?_replicate,List.getElem?_replicate,List.length_replicate,List.length_replicate]
   by_cases e2:i-k<n-k
   ·rw[if_pos e2,if_pos (by omega)]
   ·rw[if_neg e2,if_neg (by omega)]
theorem half_zero (b:B8) (n:Nat):halfB b n 0=madeCells #[.int .u8 0] n:=by
 apply Array.toList_inj.1
 apply List.ext_getElem?
 intro i
 unfold madeCells halfB
 simp only[Array.getElem?_toList,Array.getElem?_map,Array.getElem?_range,List.getElem?_map,List.replicate_zero,List.nil_append,Nat.sub_zero,List.getElem?_replicate]
 split<;>simp[cb,u,Nat.mod_one]
theorem own_cells_b {w:World} {g n base:Nat} {l:List B8} (h:Cells w g 5 (l.map cb).toArray) (hl:l.length=n) (hn:n≤1000000) (hb:base≤g):Mem.Owns cb 5 base w (.slice (some ⟨g,0,none⟩) n n) n l:=by
 subst hl
 exact⟨by simp,.inr ⟨g,l.length,(l.map cb).toArray,rfl,hb,h,Nat.le_refl _,by unfold maxLen;omega,by simp,by rw[Nat.mul_one];exact List.take_of_length_le (by simp)⟩⟩
theorem fill_any (b:B8) {n:Nat} (hn:n≤1000) (w:World):
  Calls Tryz.prog 14 #[cb b,.int .i64 (n:Int)] w fun e w'=>∃A,e= .returned (.slice A n n)∧OwnB w.heap.size w' A n n (List.replicate n b)∧Below w.heap.size w w':=by
 have hmk:=run_makeB w n (by omega)
 rw[←half_zero b n] at hmk
 have L1:=Lib.hid ((Below.refl w.heap.size w).alloc (Nat.le_refl _) (.cells (halfB b n 0) 5))
 have C1:Hid (Cells (w.alloc (.cells (halfB b n 0) 5)) w.heap.size 5 (halfB b n 0)):=Cells.new _ _ _
 obtain⟨bn,hbn⟩:∃z:Int,cb b= .int .u8 z:=⟨_,rfl⟩
 rw[hbn]
 have hcb:=Lib.hid hbn
 clear hbn
 go_enter Tryz.func14,Tryz.ntmps14
 go_upto_region 2 with fail
 generalize w.alloc (.cells (halfB b n 0) 5)=w1 at*
 clear hmk
 generalize hgg:w.heap.size=g at*
 go_wp2_with fail
 go_loopw [6,11] (fun _ i wr=>∃k:Nat,i= .int .i64 k∧k≤n∧Hid (Below g w wr∧Cells wr g 5 (halfB b n k))) (fun _ i _=>n-(intOf i).toNat)
 case atStart=>exact⟨0,rfl,by omega,L1.out,C1.out⟩
 case round=>
  obtain⟨k,rfl,hk,hH⟩:=hrel
  by_cases hlt:k<n
  ·have hk0:(0:Int)≤(k:Int):=by omega
   have hk1:(k:Int)<(n:Int):=by omega
   have m0:wr.cell? ⟨g,k,none⟩=some (.int .u8 0):=by rw[Cells.cell hH.out.2 k];exact half_get hlt
   have f0:=Cells.frozen hH.out.2 k
   have L2:Hid (Below g w (wr.setCell ⟨g,k,none⟩ (.int .u8 bn))):=hH.out.1.trans ((Mov.set1 wr (S:= [g]) (q:=g) (by simp) k (.int .u8 bn)).below (Nat.le_of_lt hH.out.2.lt) (by intro x hx;rw[List.mem_singleton] at hx;omega))
   have C2:Hid (Cells (wr.setCell ⟨g,k,none⟩ (.int .u8 bn)) g 5 (halfB b n (k+1))):=by
    show Cells _ _ _ _
    have:=Cells.set_ hH.out.2 k (.int .u8 bn)
    rw[←hcb.out,half_set hlt] at this
    rw[←hcb.out]
    exact this
   go_wp2_with fail
   go_roundw
   case rel=>exact⟨k+1,by go_num,by omega,L2.out,C2.out⟩
   case measure=>simp[intOf];omega
  ·have hkk:k=n:=by omega
   subst hkk
   go_wp2_with fail
   go_ret
   have h:=hH.out.2
   unfold halfB at h
   rw[Nat.sub_self,List.replicate_zero,List.append_nil] at h
   exact⟨_,rfl,own_cells_b h (List.length_replicate ..) (by omega) (by omega),by rw[hgg];exact hH.out.1⟩
end Rp
end
end Go.Proofs.YtmkagjnkpjpjcaaGreat
