/-
  SEVERAL TEXTS IN ONE FILE: PRepNew, PVmLayB, PRepMost, PRepMapOf, PRepMap, PRunQ, PZnsIndex.
-/
import Derived.Test.YtmkagjnkpjpjcaaGreatJ14
import Derived.Test.YtmkagjnkpjpjcaaGreatRows
import Derived.Shelf.SlLaysZI
import Derived.Shelf.SlLaysM
import Derived.Test.YtmkagjnkpjpjcaaGreatJ05
import Derived.Test.YtmkagjnkpjpjcaaGreatJ13
import Derived.Shelf.SlIterI.Nil
import Derived.Shelf.SortM.Plain
import Derived.Shelf.SortM.SortNone
import Derived.Maps.OwnOps
import Derived.Maps.Own
import Derived.Test.YtmkagjnkpjpjcaaGreatJ02
namespace Go.Proofs.YtmkagjnkpjpjcaaGreat
set_option maxRecDepth 100000
set_option linter.unusedSimpArgs false
set_option linter.unusedVariables false
set_option maxHeartbeats 12800000
section
open Go.RowKit Go.Shelf Mem Box Zns
attribute [local go_sem] Oper.semAt_some
namespace Rp
open Seg (Hdr Rc Rv fits nums hnums nn frame headX recX frames check headAt Scans sized FoundIn starts)
open Pk (rvV RBox seven_cells seven_free set7 mov7 placeR flen places)
open Zon (Zn Zv B8 cellsZ)
open Ext (run_max2)
abbrev PBox (w:World) (g:Nat) (x:PlG):Prop:=Cells w g 110 #[.int .i64 x.1.y.r.kind,.int .i64 x.1.y.r.lba,.int .i64 x.1.y.r.n,.int .i64 x.1.y.r.ver,.int .i64 x.1.y.r.zone,.int .i64 x.1.y.r.off,.slice x.1.y.D x.1.y.r.data.length x.1.y.c,.int .i64 x.1.z,.int .i64 x.1.o]
theorem cells_kept {W W':World} {row:Option Nat} {q:Nat} {t:TypeId} {cs:Array Value} (h:Cells W q t cs) (hg:W.grownBy W' row) (hr:∀r,row=some r→∃o:Obj,W.heap[r]? =some o∧o.isCells=false):Cells W' q t cs:=
 (hg.block q h.lt (fun e=>by
  obtain⟨o,ho,hc⟩:=hr q e.symm
  have h':W.heap[q]? =some (.cells cs t (0,0)):=h
  rw[h'] at ho
  injection ho with ho
  subst ho
  cases hc)).trans h
theorem own_cells {β:Type} (B q:Nat) (t:TypeId) (cs:β→Array Value):OwnFrom B (fun s W=>Cells W q t (cs s)):=fun s W W' row hs hg hr=>cells_kept hs hg (fun r e=>(hr r e).2)
def maxV (l:List Tr):Int:=l.foldl (fun v x=>max v x.1.ver) 0
theorem maxV_snoc (l:List Tr) (x:Tr):maxV (l++ [x])=max (maxV l) x.1.ver:=by unfold maxV;rw[List.foldl_append];rfl
theorem src_of {w w':World} {X:Dx} {fs:List Fd} {zs:List Nat} {S:List Nat} {T:List TypeId} {zb db base:Nat} {IA:Option Addr} {IC:Nat} (hd:Dev w X fs) (hb:Below w.heap.size w w') (hrow:OwnI base w' IA zs.length IC (zs.map fun(z:Nat)=>(z:Int))) (hz:∀z∈zs,z<X.n) (hl:zs.length≤1000) (bz:Cells w' zb 34 #[.slice IA zs.length IC]) (bd:Cells w' db 26 #[.int .i64 X.cap,.int .i64 X.op,.int .i64 X.ac,.slice X.A X.n X.c])
  (hS:∀q∈S,w.heap.size≤q∧q<base∧q<w'.heap.size) (hzb:zb∉S) (hdb:db∉S):Src S T w'.heap.size X fs zs zb db IA IC w':=
 ⟨hd.below hb,(Wire.gave_row hrow (by simp;omega)).1,bz,bd,hz,⟨hzb,bz.lt⟩,⟨hdb,bd.lt⟩,out_own hrow (fun q hq=>(hS q hq).2.1) (.inr (Nat.le_refl _)),out_rowS hd.at_.row (fun x=>⟨_,rfl⟩) hb (Nat.le_refl _) (fun q hq=>(hS q hq).1) hb.size,fun v hv=>out_row (hd.at_.data v hv) hb (Nat.le_refl _) (fun q hq=>(hS q hq).1) hb.size,fun q hq=>(hS q hq).2.2,Nat.le_refl _⟩
theorem newest_in {X:Dx} {fs:List Fd} {w:World} (h:Dev w X fs) (hg:AllGood fs (List.range X.n)):
  CallsIn Fence.wide 8 Tryz.prog 17 #[.agg #[.int .i64 X.cap,.int .i64 X.op,.int .i64 X.ac,.slice X.A X.n X.c]] w fun e w'=>e= .returned (.int .i64 (maxV (trAll fs (List.range X.n))))∧Below w.heap.size w w':=by
 have HA:=fun W (hW:Below w.heap.size w W)=>Lib.hid (all_any (h.at_.below hW) h.ok)
 have HD:=Lib.hid h
 have HG:=Lib.hid hg
 have hfew:=h.few
 have L1:Hid (Below w.heap.size w ((w.alloc (.cells #[.int .i64 X.cap,.int .i64 X.op,.int .i64 X.ac,.slice X.A X.n X.c] 26)).alloc (.cells #[.int .i64 0] 3))):=((Below.refl _ w).alloc (Nat.le_refl _) _).alloc (by simp) _
 have B1:Hid (Cells ((w.alloc (.cells #[.int .i64 X.cap,.int .i64 X.op,.int .i64 X.ac,.slice X.A X.n X.c] 26)).alloc (.cells #[.int .i64 0] 3)) w.heap.size 26 #[.int .i64 X.cap,.int .i64 X.op,.int .i64 X.ac,.slice X.A X.n X.c]):=Cells.alloc (Cells.new _ _ _) _
 have V1:Hid (Cells ((w.alloc (.cells #[.int .i64 X.cap,.int .i64 X.op,.int .i64 X.ac,.slice X.A X.n X.c] 26)).alloc (.cells #[.int .i64 0] 3)) (w.heap.size+1) 3 #[.int .i64 0]):=by
  have:=Cells.new (w.alloc (.cells #[.int .i64 X.cap,.int .i64 X.op,.int .i64 X.ac,.slice X.A X.n X.c] 26)) #[.int .i64 0] 3
  rwa [World.size_alloc] at this
 have G1:Hid (((w.alloc (.cells #[.int .i64 X.cap,.int .i64 X.op,.int .i64 X.ac,.slice X.A X.n X.c] 26)).alloc (.cells #[.int .i64 0] 3)).heap.size=w.heap.size+2):=by show _=_;simp
 clear h hg
 refine callsIn_of_wp_marks Tryz.func17 rfl trivial ?_ rfl
 simp only[Tryz.ntmps17,List.size_toArray,List.length_cons,List.length_nil,Nat.reduceAdd,Nat.reduceSub,Array.replicate_succ,Array.replicate_zero,List.push_toArray,List.append_toArray,List.nil_append,List.cons_append]
 gi_wp2
 generalize(w.alloc (.cells #[.int .i64 X.cap,.int .i64 X.op,.int .i64 X.ac,.slice X.A X.n X.c] 26)).alloc (.cells #[.int .i64 0] 3)=w1 at*
 have L1d:Hid (Below w.heap.size w w1.drew):=L1.out.drew
 have m0:w1.drew.cell? ⟨w.heap.size,0,none⟩=some (.int .i64 X.cap):=Cells.cell B1.out 0
 have m1:w1.drew.cell? ⟨w.heap.size,1,none⟩=some (.int .i64 X.op):=Cells.cell B1.out 1
 have m2:w1.drew.cell? ⟨w.heap.size,2,none⟩=some (.int .i64 X.ac):=Cells.cell B1.out 2
 have m3:w1.drew.cell? ⟨w.heap.size,3,none⟩=some (.slice X.A X.n X.c):=Cells.cell B1.out 3
 have o0:w1.cell? ⟨w.heap.size,0,none⟩=some (.int .i64 X.cap):=m0
 have o1:w1.cell? ⟨w.heap.size,1,none⟩=some (.int .i64 X.op):=m1
 have o2:w1.cell? ⟨w.heap.size,2,none⟩=some (.int .i64 X.ac):=m2
 have o3:w1.cell? ⟨w.heap.size,3,none⟩=some (.slice X.A X.n X.c):=m3
 have mixed:Tryz.prog.follows .mixedOrders=true:=by kernel_rfl
 have B1d:Hid (Cells w1.drew w.heap.size 26 #[.int .i64 X.cap,.int .i64 X.op,.int .i64 X.ac,.slice X.A X.n X.c]):=B1.out.drew
 have V1d:Hid (Cells w1.drew (w.heap.size+1) 3 #[.int .i64 0]):=V1.out.drew
 have HRM:=fun A n c w=>Lib.hid (@recs_made X A n c w)
 gi_region_with_o (first
  |(refine⟨trivial,?_⟩;gi_at_call 32;refine(callsIn_wide.2 (HA _ L1d.out).out).mono ?_;rintro e w2 ⟨IA,IC,rfl,hO,hb⟩;have O2:=Lib.hid hO;have K2:=Lib.hid hb;have B2:=Lib.hid (Cells.below B1d.out hb);clear hO hb;have q0:=Cells.cell B2.out 0;have q1:=Cells.cell B2.out 1;have q2:=Cells.cell B2.out 2;have q3:=Cells.cell B2.out 3)
  |(refine⟨trivial,?_⟩;gi_at_call 31;refine(callsIn_wide.2 (HRM _ _ _ _).out).mono ?_;rintro e w3 ⟨rfl,rfl⟩))
 all_goals
  clear q0 q1 q2 q3 m0 m1 m2 m3 o0 o1 o2 o3 HRM HA
  have L4:Hid (Below w1.drew.heap.size w1.drew ((w2.alloc (.cells #[.int .i64 X.cap,.int .i64 X.op,.int .i64 X.ac,.slice X.A X.n X.c] 26)).alloc (.cells #[.slice IA X.n IC] 34))):=(K2.out.alloc K2.out.size _).alloc (Nat.le_trans K2.out.size (by simp)) _
  have O4:Hid (OwnI w1.drew.heap.size ((w2.alloc (.cells #[.int .i64 X.cap,.int .i64 X.op,.int .i64 X.ac,.slice X.A X.n X.c] 26)).alloc (.cells #[.slice IA X.n IC] 34)) IA X.n IC (iota X.n)):=Mem.Owns.alloc (Mem.Owns.alloc O2.out _) _
  have D4:Hid (Cells ((w2.alloc (.cells #[.int .i64 X.cap,.int .i64 X.op,.int .i64 X.ac,.slice X.A X.n X.c] 26)).alloc (.cells #[.slice IA X.n IC] 34)) w2.heap.size 26 #[.int .i64 X.cap,.int .i64 X.op,.int .i64 X.ac,.slice X.A X.n X.c]):=Cells.alloc (Cells.new _ _ _) _
  have Z4:Hid (Cells ((w2.alloc (.cells #[.int .i64 X.cap,.int .i64 X.op,.int .i64 X.ac,.slice X.A X.n X.c] 26)).alloc (.cells #[.slice IA X.n IC] 34)) (w2.heap.size+1) 34 #[.slice IA X.n IC]):=by
   have:=Cells.new (w2.alloc (.cells #[.int .i64 X.cap,.int .i64 X.op,.int .i64 X.ac,.slice X.A X.n X.c] 26)) #[.slice IA X.n IC] 34
   rwa [World.size_alloc] at this
  have G2:Hid (w.heap.size+2≤w2.heap.size):=by
   have h1:w1.drew.heap.size≤w2.heap.size:=K2.out.size
   have h2:w1.drew.heap.size=w.heap.size+2:=G1.out
   show _≤_
   omega
  have G3:Hid (w1.drew.heap.size=w.heap.size+2):=G1.out
  generalize(w2.alloc (.cells #[.int .i64 X.cap,.int .i64 X.op,.int .i64 X.ac,.slice X.A X.n X.c] 26)).alloc (.cells #[.slice IA X.n IC] 34)=w4 at*
  have LW:=Lib.hid (L1d.out.trans (L4.out.mono L1d.out.size))
  have V4:Hid (Cells w4 (w.heap.size+1) 3 #[.int .i64 0]):=Cells.low V1d.out (by have:=G3.out;omega) L4.out
  have G4:=Lib.hid (LW.out.size)
  have SR:=Lib.hid (src_of (zs:=List.range X.n) (S:= [w.heap.size+1]) (T:= []) (base:=w1.drew.heap.size) HD.out LW.out (by rw[List.length_range];exact O4.out) (fun z hz=>by simpa using hz) (by simp;omega) (by rw[List.length_range];exact Z4.out) D4.out (by intro q hq;rw[List.mem_singleton] at hq;have:=G3.out;have:=V4.out.lt;omega) (by intro h;rw[List.mem_singleton] at h;have:=G2.out;omega) (by intro h;rw[List.mem_singleton] at h;have:=G2.out;omega))
  have hmax:= @run_max2
  have hvn:w.heap.size+1<w4.heap.size:=V4.out.lt
  gi_wp2
  refine wpIn_rangeFunc_ownH rfl (by omega) (gf:=61) (lb:= #[.pointer (some ⟨w2.heap.size+1,0,none⟩),.pointer (some ⟨w2.heap.size,0,none⟩)]) rfl trivial (enters_of Tryz.func61 (by kernel_rfl) rfl)
   (recs_stops 7 (by omega) SR.out ⟨by simp,by simp,by simp,by simp⟩ HG.out) (fun h k=>h.trans k) (fun W l o o' hl h hc _=>KpC.put hl h hc) (Below.refl _ _) (fun _=>rfl)
   (fun pre W=>Cells W (w.heap.size+1) 3 #[.int .i64 (maxV (pre.map plain))]∧Below w.heap.size w W)
   (fun _ _ _=>False)
   ((own_cells _ _ _ (fun pre:List PlG=> #[.int .i64 (maxV (pre.map plain))])).and (ownFrom_below (Nat.le_refl _) G4.out))
   (fun _ _ _ _ _ hs _ _=>hs)
   ⟨V4.out,LW.out⟩
   (fun x a' W=>∃Bx,w.heap.size+2≤Bx∧PBox W Bx x∧a'= {tmps:= #[.agg #[.int .i64 X.cap,.int .i64 X.op,.int .i64 X.ac,.slice X.A X.n X.c],.pointer (some ⟨w.heap.size,0,none⟩),.int .i64 0,.pointer (some ⟨w.heap.size+1,0,none⟩),.pointer (some ⟨Bx,0,none⟩),.agg #[.int .i64 X.cap,.int .i64 X.op,.int .i64 X.ac,.slice X.A X.n X.c],.agg #[.int .i64 X.cap,.int .i64 X.op,.int .i64 X.ac,.slice X.A X.n X.c],.slice IA X.n IC,
     .func (.func 61) #[] #[.pointer (some ⟨w2.heap.size+1,0,none⟩),.pointer (some ⟨w2.heap.size,0,none⟩)],plv x.1,undef,undef,undef,undef,undef,undef],defers:= []})
   (fun x a' _ W W' row hs hg hr=>by
    obtain⟨Bx,h1,h2,h3⟩:=hs
    exact⟨Bx,h1,cells_kept h2 hg (fun r e=>(hr r e).2),h3⟩) ?assign ?body ?done ?stop
  case assign=>
   rintro l pre x W K ⟨hv,hb⟩ hK
   unfold encP plv
   gi_wp2
   exact hK _ _ ((KeepsOthers.alloc _ _).from _) (KpC.of_below _ _ _ ((Below.refl _ W).alloc (Nat.le_refl _) _)) ⟨Cells.alloc hv _,hb.alloc hb.size _⟩ ⟨W.heap.size,by have:=hv.lt;omega,Cells.new _ _ _,rfl⟩
  case body=>
   rintro l pre x a' W hl ⟨r,hr⟩ ⟨hv,hb⟩ ⟨Bx,hBx,bX,rfl⟩ hlt
   have hc:=Cells.cell hv 0
   have hf:=Cells.frozen hv 0
   have hx:=Cells.cell bX 3
   have hc':W.cell? ⟨w.heap.size+1,0,none⟩=some (.int .i64 (maxV (pre.map plain))):=hc
   have hx':W.cell? ⟨Bx,3,none⟩=some (.int .i64 x.1.y.r.ver):=hx
   have HM:Hid (maxV ((pre++ [x]).map plain)=max (maxV (pre.map plain)) x.1.y.r.ver):=by show _=_;rw[List.map_append];exact maxV_snoc _ _
   generalize maxV (pre.map plain)=v0 at*
   clear hc hx
   gi_wp2
   refine⟨(KeepsOthers.setCell _ _ _).from _,KpC.of_mov (Mov.set1 W (S:= [w.heap.size+1]) (q:=w.heap.size+1) (by simp) 0 _) (fun _ h=>h),?_,hb.setCell (p:=⟨w.heap.size+1,0,none⟩) (by show w.heap.size≤w.heap.size+1;omega) _⟩
   rw[HM.out]
   simpa using Cells.set_ hv 0 (.int .i64 (max v0 x.1.y.r.ver))
  case done=>
   rintro D' ys W hD hys ⟨hv,hb⟩ hK
   have hc:W.cell? ⟨w.heap.size+1,0,none⟩=some (.int .i64 (maxV (ys.map plain))):=Cells.cell hv 0
   rw[hys] at hc
   gi_wp2
   refine⟨by simp,.inl ⟨_,_,rfl,run_takeDeferred hK,?_⟩⟩
   refine⟨_,results_tmp rfl _ _ _,?_,?_⟩
   ·rfl
   ·exact hb.trans (belowK_b (w:=w) (Nat.le_refl _) W D' _ _ (by have:=G4.out;omega) hK rfl rfl)
  case stop=>
   rintro D' c pre W _ _ h _
   exact h.elim
theorem newest_any {X:Dx} {fs:List Fd} {w:World} (h:Dev w X fs) (hg:AllGood fs (List.range X.n)):
  Calls Tryz.prog 17 #[.agg #[.int .i64 X.cap,.int .i64 X.op,.int .i64 X.ac,.slice X.A X.n X.c]] w fun e w'=>e= .returned (.int .i64 (maxV (trAll fs (List.range X.n))))∧Below w.heap.size w w':=(callsIn_wide (n:=8)).1 (newest_in h hg)
end Rp
end
section
open Go.Shelf
def Vm.laysKeys_ren:Go.Shelf.Ren:=⟨fun|7=>135|10=>176|n=>n,fun|23=>216|26=>3|3=>3|28=>96|0=>0|27=>95|33=>86|4=>4|n=>n,fun|n=>n⟩
theorem Vm.laysKeys:Go.Proofs.SlLaysZI.n7 Tryz.prog Vm.laysKeys_ren:= {
 mixed:=by kernel_rfl,
 f7:=⟨ "maps.Keys[map[int]int,int,int]",by decide,Tryz.func135.trans (congrArg some (by kernel_rfl))⟩,
 f10:=⟨ "maps.Keys[map[int]int,int,int]$1",by decide,Tryz.func176.trans (congrArg some (by kernel_rfl))⟩,
 t0:=Tryz.underlying0,
 a0:=Tryz.isAgg0,
 z0:=Tryz.sizeOf0,
 v0:=Tryz.zeroValue0,
 t4:=Tryz.underlying4,
 a4:=Tryz.isAgg4,
 z4:=Tryz.sizeOf4,
 v4:=Tryz.zeroValue4,
 t23:=Tryz.underlying216,
 a23:=Tryz.isAgg216,
 z23:=Tryz.sizeOf216,
 v23:=Tryz.zeroValue216,
 t26:=Tryz.underlying3,
 a26:=Tryz.isAgg3,
 z26:=Tryz.sizeOf3,
 v26:=Tryz.zeroValue3,
 t27:=Tryz.underlying95,
 a27:=Tryz.isAgg95,
 z27:=Tryz.sizeOf95,
 v27:=Tryz.zeroValue95,
 t28:=Tryz.underlying96,
 a28:=Tryz.isAgg96,
 z28:=Tryz.sizeOf96,
 v28:=Tryz.zeroValue96,
 t33:=Tryz.underlying86,
 a33:=Tryz.isAgg86,
 z33:=Tryz.sizeOf86,
 v33:=Tryz.zeroValue86}
def Vm.laysSorted_ren:Go.Shelf.Ren:=⟨fun|6=>34|8=>63|9=>64|11=>98|13=>100|12=>99|23=>145|24=>146|14=>136|15=>137|16=>138|17=>139|18=>140|19=>141|20=>142|21=>143|22=>144|25=>177|26=>178|27=>179|28=>180|29=>181|30=>103|31=>198|n=>n,fun|26=>3|28=>96|24=>34|0=>0|3=>3|37=>175|48=>181|50=>197|4=>4|40=>221|39=>220|45=>225|5=>5|9=>9|51=>256|55=>260|57=>276|58=>163|33=>86|n=>n,fun|n=>n⟩
theorem Vm.laysSorted:Go.Proofs.SlLaysZI.n6 Tryz.prog Vm.laysSorted_ren:= {
 mixed:=by kernel_rfl,
 f6:=⟨ "slices.Sorted[int]",by decide,Tryz.func34.trans (congrArg some (by kernel_rfl))⟩,
 f8:=⟨ "slices.Collect[int]",by decide,Tryz.func63.trans (congrArg some (by kernel_rfl))⟩,
 f11:=⟨ "slices.AppendSeq[[]int,int]",by decide,Tryz.func98.trans (congrArg some (by kernel_rfl))⟩,
 t0:=Tryz.underlying0,
 a0:=Tryz.isAgg0,
 z0:=Tryz.sizeOf0,
 v0:=Tryz.zeroValue0,
 t24:=Tryz.underlying34,
 a24:=Tryz.isAgg34,
 z24:=Tryz.sizeOf34,
 v24:=Tryz.zeroValue34,
 t26:=Tryz.underlying3,
 a26:=Tryz.isAgg3,
 z26:=Tryz.sizeOf3,
 v26:=Tryz.zeroValue3,
 t28:=Tryz.underlying96,
 a28:=Tryz.isAgg96,
 z28:=Tryz.sizeOf96,
 v28:=Tryz.zeroValue96,
 i26:=by kernel_rfl}
def Vm.laysSortI_ren:Go.Shelf.Ren:=⟨fun|5=>64|8=>100|7=>99|19=>145|20=>146|10=>136|11=>137|12=>138|13=>139|14=>140|15=>141|16=>142|17=>143|18=>144|30=>177|31=>178|32=>179|33=>180|34=>181|35=>103|40=>198|n=>n,fun|23=>34|25=>3|3=>3|32=>175|22=>34|0=>0|44=>181|46=>197|4=>4|36=>221|35=>220|41=>225|5=>5|9=>9|53=>256|57=>260|63=>276|64=>163|n=>n,fun|n=>n⟩
theorem Vm.laysSortI:Go.Proofs.SlLaysM.n5 Tryz.prog Vm.laysSortI_ren:= {
 mixed:=by kernel_rfl,
 f5:=⟨ "slices.Sort[[]int,int]",by decide,Tryz.func64.trans (congrArg some (by kernel_rfl))⟩,
 f7:=⟨ "slices.pdqsortOrdered[int]",by decide,Tryz.func99.trans (congrArg some (by kernel_rfl))⟩,
 f8:=Tryz.func100.trans (congrArg some (by kernel_rfl)),
 f10:=⟨ "slices.insertionSortOrdered[int]",by decide,Tryz.func136.trans (congrArg some (by kernel_rfl))⟩,
 f11:=⟨ "slices.heapSortOrdered[int]",by decide,Tryz.func137.trans (congrArg some (by kernel_rfl))⟩,
 f12:=⟨ "slices.breakPatternsOrdered[int]",by decide,Tryz.func138.trans (congrArg some (by kernel_rfl))⟩,
 f13:=⟨ "slices.choosePivotOrdered[int]",by decide,Tryz.func139.trans (congrArg some (by kernel_rfl))⟩,
 f14:=⟨ "slices.reverseRangeOrdered[int]",by decide,Tryz.func140.trans (congrArg some (by kernel_rfl))⟩,
 f15:=⟨ "slices.partialInsertionSortOrdered[int]",by decide,Tryz.func141.trans (congrArg some (by kernel_rfl))⟩,
 f16:=⟨ "cmp.Less[int]",by decide,Tryz.func142.trans (congrArg some (by kernel_rfl))⟩,
 f17:=⟨ "slices.partitionEqualOrdered[int]",by decide,Tryz.func143.trans (congrArg some (by kernel_rfl))⟩,
 f18:=⟨ "slices.partitionOrdered[int]",by decide,Tryz.func144.trans (congrArg some (by kernel_rfl))⟩,
 f19:=Tryz.func145.trans (congrArg some (by kernel_rfl)),
 f20:=Tryz.func146.trans (congrArg some (by kernel_rfl)),
 f30:=⟨ "slices.siftDownOrdered[int]",by decide,Tryz.func177.trans (congrArg some (by kernel_rfl))⟩,
 f31:=Tryz.func178.trans (congrArg some (by kernel_rfl)),
 f32:=Tryz.func179.trans (congrArg some (by kernel_rfl)),
 f33:=⟨ "slices.medianAdjacentOrdered[int]",by decide,Tryz.func180.trans (congrArg some (by kernel_rfl))⟩,
 f34:=⟨ "slices.medianOrdered[int]",by decide,Tryz.func181.trans (congrArg some (by kernel_rfl))⟩,
 f35:=⟨ "cmp.isNaN[int]",by decide,Tryz.func103.trans (congrArg some (by kernel_rfl))⟩,
 f40:=⟨ "slices.order2Ordered[int]",by decide,Tryz.func198.trans (congrArg some (by kernel_rfl))⟩,
 t0:=Tryz.underlying0,
 a0:=Tryz.isAgg0,
 z0:=Tryz.sizeOf0,
 v0:=Tryz.zeroValue0,
 t3:=Tryz.underlying3,
 a3:=Tryz.isAgg3,
 z3:=Tryz.sizeOf3,
 v3:=Tryz.zeroValue3,
 t4:=Tryz.underlying4,
 a4:=Tryz.isAgg4,
 z4:=Tryz.sizeOf4,
 v4:=Tryz.zeroValue4,
 t5:=Tryz.underlying5,
 a5:=Tryz.isAgg5,
 z5:=Tryz.sizeOf5,
 v5:=Tryz.zeroValue5,
 t9:=Tryz.underlying9,
 a9:=Tryz.isAgg9,
 z9:=Tryz.sizeOf9,
 v9:=Tryz.zeroValue9,
 t22:=Tryz.underlying34,
 a22:=Tryz.isAgg34,
 z22:=Tryz.sizeOf34,
 v22:=Tryz.zeroValue34,
 t23:=Tryz.underlying34,
 a23:=Tryz.isAgg34,
 z23:=Tryz.sizeOf34,
 v23:=Tryz.zeroValue34,
 t25:=Tryz.underlying3,
 a25:=Tryz.isAgg3,
 z25:=Tryz.sizeOf3,
 v25:=Tryz.zeroValue3,
 t32:=Tryz.underlying175,
 a32:=Tryz.isAgg175,
 z32:=Tryz.sizeOf175,
 v32:=Tryz.zeroValue175,
 t35:=Tryz.underlying220,
 a35:=Tryz.isAgg220,
 z35:=Tryz.sizeOf220,
 v35:=Tryz.zeroValue220,
 t36:=Tryz.underlying221,
 a36:=Tryz.isAgg221,
 z36:=Tryz.sizeOf221,
 v36:=Tryz.zeroValue221,
 t41:=Tryz.underlying225,
 a41:=Tryz.isAgg225,
 z41:=Tryz.sizeOf225,
 v41:=Tryz.zeroValue225,
 t44:=Tryz.underlying181,
 a44:=Tryz.isAgg181,
 z44:=Tryz.sizeOf181,
 v44:=Tryz.zeroValue181,
 t46:=Tryz.underlying197,
 a46:=Tryz.isAgg197,
 z46:=Tryz.sizeOf197,
 v46:=Tryz.zeroValue197,
 t53:=Tryz.underlying256,
 a53:=Tryz.isAgg256,
 z53:=Tryz.sizeOf256,
 v53:=Tryz.zeroValue256,
 t57:=Tryz.underlying260,
 a57:=Tryz.isAgg260,
 z57:=Tryz.sizeOf260,
 v57:=Tryz.zeroValue260,
 t63:=Tryz.underlying276,
 a63:=Tryz.isAgg276,
 z63:=Tryz.sizeOf276,
 v63:=Tryz.zeroValue276,
 t64:=Tryz.underlying163,
 a64:=Tryz.isAgg163,
 z64:=Tryz.sizeOf163,
 v64:=Tryz.zeroValue163}
end
section
open Go.RowKit Go.Maps Go.Sort Go.Shelf Mem Ext
namespace Rp
abbrev TM (w:World) (b n:Nat) (D:DataW Unit):Prop:=w.ownsMap Tryz.prog 3 (plainElem Tryz.prog 3) b n D
theorem insert_len (x:Lit × DataW Unit):∀l:List (Lit × DataW Unit),(DataW.insert x l).length=l.length+1
 | []=>rfl
 |y::r=>by
  rw[DataW.insert]
  split
  ·rfl
  ·rw[List.length_cons,insert_len x r,List.length_cons]
theorem map_size {w:World} {b n:Nat} {D:DataW Unit} (h:TM w b n D):Maps.size D≤n:=by
 obtain⟨es,clock,-,-,hs,rfl⟩:=h
 rw[Maps.size_eq]
 have:∀l:List (Lit × DataW Unit),(l.foldr DataW.insert []).length=l.length:=by
  intro l
  induction l with
  |nil=>rfl
  |cons x r ih=>rw[List.foldr_cons,insert_len,ih,List.length_cons]
 rw[this,List.length_map,Array.length_toList]
 exact hs
theorem sorts_in (m:Nat):AnyZI.SortsIn Tryz.prog Vm.laysSorted_ren Fence.wide m:=
 ⟨fun blk off cap ss W hH hblk hsz=>callsIn_wide.2 (AnyM.slices_Sort_int Vm.laysSortI blk off cap ss W hH hblk hsz),
  fun p cap W=>callsIn_wide.2 (AnyM.slices_Sort_int_none Vm.laysSortI p cap W)⟩
theorem keys_call (mb:Option Nat) (W:World):Calls Tryz.prog 135 #[.map mb] W fun e w'=>e= .returned (.func (.func 176) #[] #[.pointer (some ⟨W.heap.size,0,none⟩)])∧w'=W.alloc (.cells #[.map mb] 216):=
 (callsIn_wide (n:=5)).1 (AnyZI.keys_in Vm.laysKeys Fence.wide 5 trivial rfl mb W)
theorem sorted_call {w:World} {b n:Nat} {D:DataW Unit} (h:TM w b n D) (hn:n≤10000):
  Calls Tryz.prog 34 #[.func (.func 176) #[] #[.pointer (some ⟨w.heap.size,0,none⟩)]] (w.alloc (.cells #[.map (some b)] 216)) fun e w'=>∃A k c l,e= .returned (.slice A k c)∧(k≤n∧∀y∈l,y∈intKeys D)∧OwnI (w.heap.size+1) w' A k c l∧Below (w.heap.size+1) (w.alloc (.cells #[.map (some b)] 216)) w':=by
 have hbl:=h.lt
 have hsz:=map_size h
 have hseq:SeqGives Fence.wide 2 Tryz.prog 176 #[.pointer (some ⟨w.heap.size,0,none⟩)] encZ (fun ss=>ss.Perm (intKeys D)) (Maps.size D) (w.alloc (.cells #[.map (some b)] 216)):=
  AnyZI.keys_gives (ρ:=Vm.laysKeys_ren) {Vm.laysKeys with} Fence.wide _ trivial rfl (by omega) w.heap.size b n D _ (by simp) (by simp) (h.alloc _)
 have cS:=AnyZI.sorted_in Vm.laysSorted Fence.wide 5 trivial trivial trivial trivial rfl (by omega) (sorts_in _) (enters_of Tryz.func64 (by kernel_rfl) rfl) 176 #[.pointer (some ⟨w.heap.size,0,none⟩)] trivial (enters_of Tryz.func176 (by kernel_rfl) rfl) _ _ (by unfold maxLen;omega) (by omega) _ hseq
 change CallsIn _ _ Tryz.prog 34 _ _ _ at cS
 refine(callsIn_wide.1 cS).mono ?_
 rintro e w' ⟨v,ss,rfl,hS,hrow,-,hb⟩
 rw[World.size_alloc] at hrow hb
 have hl:ss.length≤n:=by
  have h1:=hS.length_eq
  obtain⟨es,clock,-,-,hs,hD⟩:=h
  rw[h1,hD]
  show(List.map _ _).length≤n
  rw[List.length_map]
  rw[hD,Maps.size_eq] at hsz
  exact hsz
 have hO:Mem.Owns ci 3 (w.heap.size+1) w' v ss.length (ss.mergeSort (fun x y=>decide (x≤y))):=hrow
 obtain⟨A,c,rfl⟩:=hO.slice
 exact⟨A,ss.length,c,_,rfl,⟨hl,fun y hy=>hS.mem_iff.1 ((List.mergeSort_perm _ _).mem_iff.1 hy)⟩,hO,hb⟩
theorem row_two {w:World} {A B:Option Addr} {n c m d:Nat} {a b:List Ex} {t:TypeId} {q:Nat} (h:Ext.Cells w q t #[.slice A n c,.slice B m d]):Row Piece.val w (some ⟨q,0,none⟩) 2 2 [⟨A,n,c,a⟩,⟨B,m,d,b⟩]:=by
 refine⟨rfl,by omega,by omega,fun _=>⟨_,_,rfl,Ext.Cells.lt h,fun i x hx=> ?_⟩⟩
 rcases i with _|_|i
 ·simp only[List.getElem?_cons_zero,Option.some.injEq] at hx
  subst hx
  exact Ext.Cells.cell h 0
 ·simp only[List.getElem?_cons_succ,List.getElem?_cons_zero,Option.some.injEq] at hx
  subst hx
  exact Ext.Cells.cell h 1
 ·simp at hx
theorem wf_small {z:Int} (h0:0≤z) (h1:z≤1099511627776):(Lit.int .i64 z).wf=true:=by
 simp only[Lit.wf,IntKind.min,IntKind.max,IntKind.signed,IntKind.bits,Bool.and_eq_true,decide_eq_true_eq,if_true]
 omega
theorem look_map {w:World} {b n:Nat} {D:DataW Unit} {ops:Array Oper} {rest:List Oper} {o:Oper} {a:Act} {Q:Exit→Act→World→Prop} (hg:o.guard=none) (m x:Operand) (hop:o.op=Op.lookup 216 m x false) (hm:a.eval m= .map (some b)) (h:TM w b n D) {z:Int} (hx:a.eval x= .int .i64 z) (hw:(Lit.int .i64 z).wf=true)
  (hK:∀c:Int,wpList Tryz.prog ops Q rest (a.put o.dst (.int .i64 c)) w):wpList Tryz.prog ops Q (o::rest) a w:=
 wpList_lookup_own_int w hg m x 216 hop 3 3 .i64 (int_keyed Tryz.underlying3) Tryz.underlying216 Tryz.underlying3 (Tryz.zeroValue3 w) b n D hm h _ (.int .i64 z) hx (keyOf_int_mk Tryz.underlying3 hw) (fun c _ _=>hK c)
theorem mem_insert {x y:Lit × DataW Unit}:∀ {l:List (Lit × DataW Unit)},y∈DataW.insert x l→y=x∨y∈l
 | [],h=>by simpa [DataW.insert] using h
 |a::r,h=>by
  rw[DataW.insert] at h
  split at h
  ·simpa using h
  ·rcases List.mem_cons.1 h with h|h
   ·exact .inr (by simp[h])
   ·rcases mem_insert h with h|h
    ·exact .inl h
    ·exact .inr (by simp[h])
theorem keys_put {D:DataW Unit} {z y:Int} {d:DataW Unit} (h:y∈intKeys (D.put (.int .i64 z) d)):y=z∨y∈intKeys D:=by
 cases D with
 |map es=>
  simp only[DataW.put,intKeys,List.mem_map] at h ⊢
  obtain⟨p,hp,rfl⟩:=h
  rcases mem_insert hp with rfl|hp
  ·exact .inl rfl
  ·exact .inr ⟨p,(List.mem_filter.1 hp).1,rfl⟩
 |_=>exact .inr h
theorem put_map {w:World} {b n:Nat} {D:DataW Unit} {ops:Array Oper} {rest:List Oper} {o:Oper} {a:Act} {Q:Exit→Act→World→Prop} (hg:o.guard=none) (m x v:Operand) (hop:o.op=Op.mapUpdate 216 m x v) (hm:a.eval m= .map (some b)) (h:TM w b n D) (hn:n<10000) {z u:Int} (hx:a.eval x= .int .i64 z) (hw:(Lit.int .i64 z).wf=true) (hv:a.eval v= .int .i64 (wrap64 u))
  (hK:∀w' D',TM w' b (n+1) D'∧(∀y∈intKeys D',y=z∨y∈intKeys D)→w.grownBy w' (some b)→wpList Tryz.prog ops Q rest (a.put o.dst undef) w'):wpList Tryz.prog ops Q (o::rest) a w:=
 wpList_mapUpdate_own w hg m x v 216 hop 3 3 (int_keyed Tryz.underlying3) Tryz.underlying216 _ b n D hm h (by unfold maxLen;omega) _ _ (.int .i64 z) hx hv (keyOf_int_mk Tryz.underlying3 hw) _ [] (plainElem_int Tryz.underlying3 (wrap64_wf u)) (fun w' h1 h2=>hK w' _ ⟨h1,fun y hy=>keys_put hy⟩ h2)
theorem rowL_map {w w':World} {A:Option Addr} {n c b:Nat} {l:List Ex} {k:Nat} {D:DataW Unit} (h:RowL w A n c l) (hm:TM w b k D) (hg:w.grownBy w' (some b)):RowL w' A n c l:=by
 refine⟨h.len,h.cap,h.big,fun h0=> ?_⟩
 obtain⟨q,o,e,hb,hc⟩:=h.at_ h0
 refine⟨q,o,e,Nat.lt_of_lt_of_le hb hg.size,fun i x hx j u hu=> ?_⟩
 have h1:=hc i x hx j u hu
 rw[World.cell?_of_block (a:=⟨q,o+i*5+j,none⟩) (hg.block q hb (fun e=>by
  injection e with e
  subst e
  obtain⟨es,clock,q1,-⟩:=hm
  simp[World.cell?,q1] at h1))]
 exact h1
theorem box_map {w w':World} {q b:Nat} {t:TypeId} {cs:Array Value} {k:Nat} {D:DataW Unit} (h:Ext.Cells w q t cs) (hm:TM w b k D) (hg:w.grownBy w' (some b)):Ext.Cells w' q t cs:=
 (hg.block q (Ext.Cells.lt h) (fun e=>by
  injection e with e
  subst e
  obtain⟨es,clock,q1,-⟩:=hm
  have h':w.heap[q]? =some (.cells cs t (0,0)):=h
  rw[q1] at h'
  cases h')).trans h
theorem low_map {w0 w w':World} {b:Nat} (h:Below w0.heap.size w0 w) (hg:w.grownBy w' (some b)) (hb:w0.heap.size≤b):Below w0.heap.size w0 w':=h.grown hg h.size (fun q e=>by injection e with e;omega)
theorem most_any {A:Option Addr} {n c:Nat} {ps:List Piece} {w:World} (h:Row Piece.val w A n c ps) (hp:∀p∈ps,RowL w p.A p.n p.c p.l) (hm:∀x∈joined ps,MayX x) (ht:(joined ps).length≤60) (ht2:total ps≤60):
  Calls Tryz.prog 96 #[.slice none 0 0,.slice A n c] w fun e w'=>(∃q:Int,e= .returned (.int .i64 q)∧0≤q∧q≤120)∧Below w.heap.size w w':=by
 have HC:=fun W (hW:Below w.heap.size w W)=>Lib.hid (concat_any (h.below hW) (fun p q=>(hp p q).below hW) (by omega))
 have HM:=Lib.hid hm
 have HT:=Lib.hid ht
 have hmm:= @run_makeMap Tryz.prog
 have M0:=Lib.hid (World.ownsMap_made w Tryz.prog 3 (plainElem (H:=Unit) Tryz.prog 3))
 have L0:=Lib.hid ((Below.refl w.heap.size w).alloc (Nat.le_refl _) (.map #[] 0))
 clear h hp hm ht
 go_enter Tryz.func96,Tryz.ntmps96
 go_upto_region 2 with fail
 generalize w.alloc (.map #[] 0)=w1 at*
 generalize joined ps=X at*
 have J2:∀(B:Option Addr) (k d:Nat) (a:List Ex),joined [⟨none,0,0,[]⟩,⟨B,k,d,a⟩]=a:=fun _ _ _ _=>by simp[joined]
 go_wp2_with (first
  |(go_at_call 134
    first
     |(refine(HC w1 L0.out).out.mono ?_;rintro e w2 ⟨⟨B,k,d,rfl,hO⟩,hb⟩
       have O2:=Lib.hid hO
       have L2:=Lib.hid (L0.out.trans (hb.mono L0.out.size))
       have N2:=Lib.hid (hb.block w.heap.size (M0.out.lt))
       have M2:Hid (TM w2 w.heap.size 0 (.map [])):=by
        obtain⟨es,clock,q1,q2⟩:=M0.out
        exact⟨es,clock,N2.out.trans q1,q2⟩
       clear hO hb HC)
     |(have hkk:k≤60:=by have:=O2.out.2;have:=HT.out;omega
       refine(concat_any (row_two (a:= []) (b:=X) (Ext.Cells.new _ _ _)) (by
        intro p hp
        simp only[List.mem_cons,List.not_mem_nil,or_false] at hp
        rcases hp with rfl|rfl
        ·exact RowS.nil _ _ _
        ·exact(OwnsL.row O2.out (by omega)).below ((Below.refl _ w2).alloc (Nat.le_refl _) _)) (by simp[total];omega)).mono ?_
       rw[J2]
       rintro e w3 ⟨⟨B3,k3,d3,rfl,hO⟩,hb⟩
       have O3:=Lib.hid hO
       have A2:=Lib.hid ((Below.refl w2.heap.size w2).alloc (Nat.le_refl _) (.cells #[.slice none 0 0,.slice B k d] 30))
       have L3:=Lib.hid (L2.out.trans ((A2.out.trans (hb.mono A2.out.size)).mono L2.out.size))
       have N3:=Lib.hid ((A2.out.trans (hb.mono A2.out.size)).block w.heap.size (M2.out.lt))
       have M3:Hid (TM w3 w.heap.size 0 (.map [])):=by
        obtain⟨es,clock,q1,q2⟩:=M2.out
        exact⟨es,clock,N3.out.trans q1,q2⟩
       clear hO hb))
  |fail)
 go_loopw [7,19] (fun _ i wr=>∃j:Nat,i= .int .i64 j∧j≤k3∧Hid (Below w3.heap.size w3 wr∨True)∧Hid (∃D,(TM wr w.heap.size (2*j) D∧∀y∈intKeys D,(Lit.int .i64 y).wf=true)∧Below w.heap.size w wr∧RowL wr B3 k3 d3 X)) (fun _ i _=>k3-(intOf i).toNat)
 case atStart=>exact⟨0,rfl,by omega,.inr trivial,.map [],⟨M3.out,by intro y hy;simp[intKeys] at hy⟩,L3.out,OwnsL.row O3.out (by have:=O3.out.2;have:=HT.out;omega)⟩
 case round=>
  clear O3 M3 L3
  obtain⟨j,rfl,hj,-,hI⟩:=hrel
  by_cases hlt:j<k3
  ·obtain⟨D,hTM,hLo,hRow⟩:=hI.out
   have hT:=Lib.hid hTM
   have hL:=Lib.hid hLo
   have hR:=Lib.hid hRow
   obtain⟨x,hx⟩:=hRow.get hlt
   have hxm:=HM.out x (List.mem_of_getElem? hx)
   obtain⟨b,o,hA,p0,p1,p2,p3,p4⟩:=RowS.ext_at hRow hx
   subst hA
   have hj0:(0:Int)≤(j:Int):=by omega
   have hj1:(j:Int)<(k3:Int):=by omega
   have hk60:k3≤60:=by have:=hRow.len;have:=HT.out;omega
   have hw:IntKind.i64.wrap (x.lba+x.n)=x.lba+x.n:=by have:=hxm.1;have:=hxm.2.1;have:=hxm.2.2.1;exact Ext.wrap_small (by omega) (by omega)
   have HW:=Lib.hid (show(Lit.int .i64 x.lba).wf=true∧(Lit.int .i64 (x.lba+x.n)).wf=true from by have:=hxm.1;have:=hxm.2.1;have:=hxm.2.2.1;exact⟨wf_small (by omega) (by omega),wf_small (by omega) (by omega)⟩)
   clear hTM hLo hRow hx hxm hI
   go_upto_region 5 with fail
   have T1:Hid (TM (wr.alloc (.cells #[.int .i64 x.lba,.int .i64 x.n,.int .i64 x.ver,.int .i64 x.zone,.int .i64 x.off] 60)) w.heap.size (2*j) D):=hT.out.1.alloc _
   have HKD:=Lib.hid hT.out.2
   have L1:=Lib.hid (hL.out.alloc hL.out.size (.cells #[.int .i64 x.lba,.int .i64 x.n,.int .i64 x.ver,.int .i64 x.zone,.int .i64 x.off] 60))
   have R1:Hid (RowL (wr.alloc (.cells #[.int .i64 x.lba,.int .i64 x.n,.int .i64 x.ver,.int .i64 x.zone,.int .i64 x.off] 60)) (some ⟨b,o,none⟩) k3 d3 X):=RowS.alloc hR.out _
   have B1:Hid (LBox (wr.alloc (.cells #[.int .i64 x.lba,.int .i64 x.n,.int .i64 x.ver,.int .i64 x.zone,.int .i64 x.off] 60)) wr.heap.size x):=Ext.Cells.new _ _ _
   generalize wr.alloc (.cells #[.int .i64 x.lba,.int .i64 x.n,.int .i64 x.ver,.int .i64 x.zone,.int .i64 x.off] 60)=w4 at*
   clear p0 p1 p2 p3 p4 hT hL hR
   obtain⟨n0,n1,n2,n3,n4⟩:=LBox.cells B1.out
   go_upto_region 6 with(first
    |(refine look_map rfl (.tmp 23) (.tmp 25) rfl rfl T1.out rfl HW.out.1 ?_;intro c1)
    |(refine put_map rfl (.tmp 23) (.tmp 25) (.tmp 27) rfl rfl T1.out (by omega) rfl HW.out.1 rfl ?_;intro w5 D5 h1 h2;have T5:=Lib.hid h1.1;have K5:=Lib.hid h1.2;have L5:=Lib.hid (low_map L1.out h2 (Nat.le_refl _));have R5:=Lib.hid (rowL_map R1.out T1.out h2);have B5:Hid (LBox w5 wr.heap.size x):=box_map B1.out T1.out h2;clear h1 h2))
   clear n0 n1 n2 n3 n4 T1 L1 R1 B1
   obtain⟨n0,n1,n2,n3,n4⟩:=LBox.cells B5.out
   go_wp2_with (first
    |(refine look_map rfl (.tmp 28) (.tmp 33) rfl rfl T5.out rfl HW.out.2 ?_;intro c2)
    |(refine put_map rfl (.tmp 28) (.tmp 33) (.tmp 35) rfl rfl T5.out (by omega) rfl HW.out.2 rfl ?_;intro w6 D6 h1 h2;have T6:=Lib.hid h1.1;have K6:=Lib.hid h1.2;have L6:=Lib.hid (low_map L5.out h2 (Nat.le_refl _));have R6:=Lib.hid (rowL_map R5.out T5.out h2);clear h1 h2))
   go_roundw
   case rel=>
    refine⟨j+1,by go_num,by omega,.inr trivial,D6,⟨by rw[show 2*(j+1)=2*j+1+1 from by omega];exact T6.out,fun y hy=> ?_⟩,L6.out,R6.out⟩
    rcases K6.out y hy with h|h
    ·rw[h];exact HW.out.2
    ·rcases K5.out y h with h|h
     ·rw[h];exact HW.out.1
     ·exact HKD.out y h
   case measure=>simp[intOf];omega
  ·obtain⟨D,hTM,hLo,hRow⟩:=hI.out
   have hk60:k3≤60:=by have:=hRow.len;have:=HT.out;omega
   have hT:=Lib.hid hTM
   have hL:=Lib.hid hLo
   have hj60:j≤60:=by omega
   clear hTM hLo hRow hI
   have HSC:=Lib.hid (sorted_call hT.out.1 (by omega))
   have HKD:=Lib.hid hT.out.2
   have N7:Hid (Below wr.heap.size wr (wr.alloc (.cells #[.map (some w.heap.size)] 216))):=(Below.refl _ wr).alloc (Nat.le_refl _) _
   go_wp2_with (first
    |(go_at_call 135;refine(keys_call _ _).mono ?_;rintro e w7 ⟨rfl,rfl⟩)
    |(go_at_call 34;refine HSC.out.mono ?_;rintro e w8 ⟨A8,k8,c8,l8,rfl,hk8,hO,hb⟩;have O8:=Lib.hid hO;have K8:=Lib.hid hk8;have L8:=Lib.hid (hL.out.trans ((N7.out.trans (hb.mono (by omega))).mono hL.out.size));have T8:Hid (TM w8 w.heap.size (2*j) D):=by
        obtain⟨es,clock,q1,q2⟩:=hT.out.1
        exact⟨es,clock,((N7.out.trans (hb.mono (by omega))).block _ hT.out.1.lt).trans q1,q2⟩
      clear hO hk8 hb HSC))
   have hk120:k8≤120:=by have:=K8.out.1;omega
   have R8:=Lib.hid (Wire.gave_row O8.out (by have:=O8.out.len;omega)).1
   clear hT hL N7 O8
   go_loopw [8,9,11,41] (fun vm vd _ i wr2=>∃(q m:Nat) (dz:Int),i= .int .i64 q∧vm= .int .i64 m∧vd= .int .i64 dz∧q≤k8∧m≤q∧wr2=w8) (fun _ _ _ i _=>k8-(intOf i).toNat)
   case atStart=>exact⟨0,0,0,rfl,rfl,rfl,by omega,by omega,rfl⟩
   case round=>
    obtain⟨q,m,dz,rfl,rfl,rfl,hq,hmq,rfl⟩:=hrel
    by_cases hlq:q<k8
    ·obtain⟨y,hy⟩:=R8.out.get hlq
     obtain⟨b,o,rfl,c0⟩:=R8.out.cell hy
     have hwy:=HKD.out y (K8.out.2 y (List.mem_of_getElem? hy))
     have HWY:=Lib.hid hwy
     have c0':wr.cell? ⟨b,o+q,none⟩=some (.int .i64 y):=c0
     have hq0:(0:Int)≤(q:Int):=by omega
     have hq1:(q:Int)<(k8:Int):=by omega
     have hmw:IntKind.i64.wrap ((m:Int)+1)=((m+1:Nat):Int):=by rw[IntKind.wrap_i64];omega
     clear hy c0 hwy
     go_upto_region 13 with(refine look_map rfl (.tmp 46) (.tmp 47) rfl rfl T8.out rfl HWY.out ?_;intro c1)
     generalize wrap64 (dz+c1)=dz' at*
     by_cases hd:0<dz'
     ·go_wp2_with fail
      go_roundw
      case rel=>exact⟨q+1,m+1,dz',by go_num,by go_num,rfl,by omega,by omega,by first|rfl|trivial⟩
      case measure=>simp[intOf];omega
     ·go_wp2_with fail
      go_roundw
      case rel=>exact⟨q+1,m,dz',by go_num,rfl,rfl,by omega,by omega,by first|rfl|trivial⟩
      case measure=>simp[intOf];omega
    ·go_wp2_with fail
     go_ret
     exact⟨⟨m,rfl,by omega,by omega⟩,L8.out⟩
theorem offered_any {A:Option Addr} {n c:Nat} {ps:List Piece} {w:World} (h:Row Piece.val w A n c ps) (hp:∀p∈ps,RowL w p.A p.n p.c p.l) (hm:∀x∈joined ps,MayX x) (ht:(joined ps).length≤60) (ht2:total ps≤60):
  Calls Tryz.prog 60 #[.slice none 0 0,.slice A n c] w fun e w'=>∃m,Vm.Offd (joined ps) m∧GaveE w m 0 e w':=by
 have HMO:=Lib.hid (most_any h hp hm ht ht2)
 have HME:=fun W (hW:Below w.heap.size w W)=>Lib.hid (Vm.merge_any (h.below hW) (fun p q=>(hp p q).below hW) hm ht (by omega))
 clear h hp hm ht
 go_enter Tryz.func60,Tryz.ntmps60
 go_upto_region 2 with(go_at_call 96;refine HMO.out.mono ?_;rintro e w2 ⟨⟨q,rfl,hq0,hq1⟩,hb⟩;have L2:=Lib.hid hb;have hq2:q≤10000:=(by omega);clear hb hq0 hq1)
 go_wp2_with (go_at_call 97;refine(HME w2 L2.out).out.mono ?_;rintro e w3 ⟨m,hof,⟨B,k,d,rfl,hO⟩,hb⟩;have F3:=Lib.hid hof;have O3:=Lib.hid (OwnsL.mono hO L2.out.size);have L3:=Lib.hid (L2.out.trans (hb.mono L2.out.size));clear hof hO hb)
 go_ret2
 exact⟨m,F3.out,⟨B,k,d,rfl,O3.out⟩,L3.out⟩
end Rp
end
section
open Go.RowKit Go.Shelf Mem Box
attribute [local go_sem] Oper.semAt_some
namespace Rp
open Seg (Hdr Rc Rv fits nums hnums nn frame headX recX frames check headAt Scans sized FoundIn starts)
open Pk (rvV RBox seven_cells seven_free set7 mov7 placeR flen places)
open Zns (Dx)
open Ext (MayX Ex OwnsL Piece joined total RowL GaveE)
open Vm (exR Offd apply_any)
def exT (x:Tr):Ex:=exR x.1 x.2.1 x.2.2
structure Gath (w W:World) (pre:List PlG) (k:Nat) (A:Option Addr) (c:Nat) (ps:List Piece):Prop where
 box:Cells W (w.heap.size+3) 125 #[.slice A k c]
 mbox:Cells W (w.heap.size+2) 30 #[.slice none 0 0]
 r2:Cells W w.heap.size 30 #[.slice none 0 0]
 r3:Cells W (w.heap.size+1) 31 #[.int .i64 0]
 row:Mem.Owns Piece.val 30 (w.heap.size+4) W (.slice A k c) k ps
 all:∀p∈ps,p.n=1∧OwnsL w.heap.size W (.slice p.A p.n p.c) p.n p.l
 eq:ps.map Piece.l=pre.map fun x=> [exT (plain x)]
 below:Below w.heap.size w W
section
variable {w W W':World} {pre:List PlG} {k c:Nat} {A:Option Addr} {ps:List Piece}
theorem Gath.len (h:Gath w W pre k A c ps):k=pre.length:=by
 have h1:=congrArg List.length h.eq
 have h2:=h.row.len
 simp only[List.length_map] at h1
 omega
theorem Gath.below' (h:Gath w W pre k A c ps) (hb:Below W.heap.size W W'):Gath w W' pre k A c ps:=
 ⟨h.box.below hb,h.mbox.below hb,h.r2.below hb,h.r3.below hb,h.row.below hb,fun p hp=>⟨(h.all p hp).1,(h.all p hp).2.below hb⟩,h.eq,h.below.trans (hb.mono h.below.size)⟩
theorem Gath.joined_eq (h:Gath w W pre k A c ps):joined ps=pre.map fun x=>exT (plain x):=by
 have h1:=h.eq
 unfold joined
 rw[List.flatMap_def,h1]
 clear h h1
 induction pre with
 |nil=>rfl
 |cons x r ih=>rw[List.map_cons,List.flatten_cons,ih];rfl
theorem Gath.total_eq (h:Gath w W pre k A c ps):total ps=k:=by
 have h0:=h.row.len
 have h1:=h.all
 clear h
 unfold total
 induction ps generalizing k with
 |nil=>simpa using h0
 |cons p r ih=>
  have:=ih (k:=r.length) rfl (fun q hq=>h1 q (by simp[hq]))
  rw[List.map_cons,List.sum_cons,this,(h1 p (by simp)).1]
  rw[←h0,List.length_cons];omega
theorem kept_row {α:Type} {f:α→Value} {e:TypeId} {base n:Nat} {s:Value} {l:List α} {row:Option Nat} (h:Mem.Owns f e base W s n l) (hg:W.grownBy W' row) (hr:∀r,row=some r→∃o:Obj,W.heap[r]? =some o∧o.isCells=false):Mem.Owns f e base W' s n l:=by
 refine World.ownsRow.kept h hg ?_
 rcases e1:s.ownBlock with _|q
 ·exact .inl rfl
 ·refine .inr fun e2=> ?_
  obtain⟨o,ho,hc⟩:=hr q e2.symm
  rcases h.2 with⟨rfl,-⟩|⟨g,cap,cur,rfl,-,hgc,-⟩
  ·cases e1
  ·injection e1 with e1
   subst e1
   rw[hgc] at ho
   injection ho with ho
   subst ho
   cases hc
theorem kept_rowL {base n:Nat} {s:Value} {l:List Ex} {row:Option Nat} (h:OwnsL base W s n l) (hg:W.grownBy W' row) (hr:∀r,row=some r→∃o:Obj,W.heap[r]? =some o∧o.isCells=false):OwnsL base W' s n l:=by
 refine OwnsL.kept h hg ?_
 rcases e1:s.ownBlock with _|q
 ·exact .inl rfl
 ·refine .inr fun e2=> ?_
  obtain⟨o,ho,hc⟩:=hr q e2.symm
  rcases h.1.2 with⟨rfl,-⟩|⟨g,cap,cur,rfl,-,hgc,-⟩
  ·cases e1
  ·injection e1 with e1
   subst e1
   rw[hgc] at ho
   injection ho with ho
   subst ho
   cases hc
theorem gath_own (w:World) {B:Nat} (hB:w.heap.size≤B):OwnFrom B (fun(pre:List PlG) W=>∃k A c ps,Gath w W pre k A c ps):=fun pre W W' row hs hg hr=>by
 obtain⟨k,A,c,ps,h⟩:=hs
 have hr':=fun r e=>(hr r e).2
 exact⟨k,A,c,ps,cells_kept h.box hg hr',cells_kept h.mbox hg hr',cells_kept h.r2 hg hr',cells_kept h.r3 hg hr',kept_row h.row hg hr',fun p hp=>⟨(h.all p hp).1,kept_rowL (h.all p hp).2 hg hr'⟩,h.eq,h.below.grown hg h.below.size (fun q e=>Nat.le_trans hB (hr q e).1)⟩
end
theorem keeps_below {W W':World} (h:Below W.heap.size W W'):KeepsOthers W W':=⟨h.size,fun k o hk _=>(h.block k (Array.getElem?_eq_some_iff.1 hk).1).trans hk⟩
theorem keeps_chg {t:TypeId} {r:Option Nat} {W W':World} (h:Chg t r W W'):KeepsOthers W W':=⟨h.by_.size,fun k o hk hc=>(h.by_.block k (Array.getElem?_eq_some_iff.1 hk).1 (fun e=>by
 obtain⟨cur,hcur⟩:=h.is_ k e.symm
 have h1:W.heap[k]? =some (.cells cur t (0,0)):=hcur
 rw[h1] at hk
 injection hk with hk
 subst hk
 cases hc)).trans hk⟩
theorem chg_own {f:Piece→Value} {t:TypeId} {base n c:Nat} {A:Option Addr} {l:List Piece} {W W':World} (h:Mem.Owns f t base W (.slice A n c) n l) (hg:W.grownBy W' (Value.slice A n c).ownBlock):Chg t (Value.slice A n c).ownBlock W W':=by
 refine⟨hg,fun q hq=> ?_⟩
 rcases h.2 with⟨h1,-⟩|⟨g,cap,cur,h1,hb,hgc,-⟩
 ·injection h1 with h1
  subst h1
  cases hq
 ·injection h1 with h1
  subst h1
  injection hq with hq
  subst hq
  exact⟨cur,hgc⟩
theorem Gath.push {w w2 w3:World} {pre:List PlG} {x:PlG} {k k' c c' d:Nat} {A A' B:Option Addr} {ps:List Piece} (h:Gath w w2 pre k A c ps) (hk:k'=k+1) (hx:OwnsL w.heap.size w2 (.slice B 1 d) 1 [exT (plain x)]) (hown:Mem.Owns Piece.val 30 (w.heap.size+4) w3 (.slice A' k' c') k' (ps++ [⟨B,1,d,[exT (plain x)]⟩]))
  (hg:(w2.alloc (.cells #[.slice B 1 d] 30)).grownBy w3 (Value.slice A k c).ownBlock):
  Gath w (w3.setCell ⟨w.heap.size+3,0,none⟩ (.slice A' k' c')) (pre++ [x]) k' A' c' (ps++ [⟨B,1,d,[exT (plain x)]⟩])∧KpC [] [30,125] w.heap.size w2 (w3.setCell ⟨w.heap.size+3,0,none⟩ (.slice A' k' c'))∧KeepsOthers w2 (w3.setCell ⟨w.heap.size+3,0,none⟩ (.slice A' k' c'))∧Cells w3 (w.heap.size+3) 125 #[.slice A k c]:=by
 have h1:=h.below' ((Below.refl _ w2).alloc (Nat.le_refl _) (.cells #[.slice B 1 d] 30))
 have hx1:OwnsL w.heap.size (w2.alloc (.cells #[.slice B 1 d] 30)) (.slice B 1 d) 1 [exT (plain x)]:=hx.below ((Below.refl _ w2).alloc (Nat.le_refl _) _)
 have hch:=chg_own h1.row hg
 have hlt:=fun q (hq:(Value.slice A k c).ownBlock=some q)=>(OwnB.owns_lt h1.row q hq).1
 have cel:∀ {q:Nat} {t:TypeId} {cs:Array Value},q<w.heap.size+4→Cells (w2.alloc (.cells #[.slice B 1 d] 30)) q t cs→Cells w3 q t cs:=fun hq hc=>(hg.block _ hc.lt (fun e=>by have:=hlt _ e.symm;omega)).trans hc
 have b3:Cells w3 (w.heap.size+3) 125 #[.slice A k c]:=cel (by omega) h1.box
 have hs:Chg 125 (some (w.heap.size+3)) w3 (w3.setCell ⟨w.heap.size+3,0,none⟩ (.slice A' k' c')):=Chg.set1 b3 0 _
 have lo3:Below w.heap.size w w3:=h1.below.grown hg h1.below.size (fun q e=>by have:=hlt q e;omega)
 refine⟨⟨?_,(cel (by omega) h1.mbox).set_other (by omega) 0 _,(cel (by omega) h1.r2).set_other (by omega) 0 _,(cel (by omega) h1.r3).set_other (by omega) 0 _,hs.ownI hown (by decide),fun p hp=> ?_,?_,lo3.setCell (p:=⟨w.heap.size+3,0,none⟩) (by show w.heap.size≤w.heap.size+3;omega) _⟩,?_,?_,b3⟩
 ·simpa using b3.set_ 0 (.slice A' k' c')
 ·rcases List.mem_append.1 hp with hp|hp
  ·exact⟨(h1.all p hp).1,hs.owns (cells:=Ext.cellsL) (k:=5) (hch.owns (cells:=Ext.cellsL) (k:=5) (h1.all p hp).2 (by decide)) (by decide)⟩
  ·rw[List.mem_singleton] at hp
   subst hp
   exact⟨rfl,hs.owns (cells:=Ext.cellsL) (k:=5) (hch.owns (cells:=Ext.cellsL) (k:=5) hx1 (by decide)) (by decide)⟩
 ·rw[List.map_append,List.map_append,h.eq];rfl
 ·exact((KpC.of_below _ _ _ ((Below.refl _ w2).alloc (Nat.le_refl _) _)).trans (KpC.of_chg hch (by decide) (fun q hq=>by have:=hlt q hq;omega))).trans (KpC.of_chg hs (by decide) (fun q hq=>by injection hq with hq;omega))
 ·exact((KeepsOthers.alloc _ _).trans (keeps_chg hch)).trans (KeepsOthers.setCell _ _ _)
theorem info_sl:(Tryz.prog.info? 30).map (fun i=>(i.zero,i.size,i.bytes))=some (some (.slice none 0 0),1,24):=by kernel_rfl
theorem mapOf_in {X:Dx} {fs:List Fd} {zs:List Nat} {zb db IC:Nat} {IA:Option Addr} {w:World} (h:Src [] [30,125] w.heap.size X fs zs zb db IA IC w) (hg:AllGood fs zs) (hf:(trAll fs zs).length≤60):
  CallsIn Fence.wide 8 Tryz.prog 30 #[.func (.func 61) #[] #[.pointer (some ⟨zb,0,none⟩),.pointer (some ⟨db,0,none⟩)]] w fun e w'=>∃m,Offd ((trAll fs zs).map exT) m∧GaveE w m 0 e w':=by
 have HS:=Lib.hid h
 have HG:=Lib.hid hg
 have HF:=Lib.hid hf
 have G1:Hid (Gath w ((((w.alloc (.cells #[.slice none 0 0] 30)).alloc (.cells #[.int .i64 0] 31)).alloc (.cells #[.slice none 0 0] 30)).alloc (.cells #[.slice none 0 0] 125)) [] 0 none 0 []):=by
  have c1:=Cells.new w #[.slice none 0 0] 30
  have c2:=Cells.new (w.alloc (.cells #[.slice none 0 0] 30)) #[.int .i64 0] 31
  have c3:=Cells.new ((w.alloc (.cells #[.slice none 0 0] 30)).alloc (.cells #[.int .i64 0] 31)) #[.slice none 0 0] 30
  have c4:=Cells.new (((w.alloc (.cells #[.slice none 0 0] 30)).alloc (.cells #[.int .i64 0] 31)).alloc (.cells #[.slice none 0 0] 30)) #[.slice none 0 0] 125
  simp only[World.size_alloc,Nat.add_assoc,Nat.reduceAdd] at c2 c3 c4
  exact⟨c4,c3.alloc _,((c1.alloc _).alloc _).alloc _,(c2.alloc _).alloc _,Mem.Owns.nil _ _ _ _,by simp,rfl,((((Below.refl _ w).alloc (Nat.le_refl _) _).alloc (by simp) _).alloc (by simp;omega) _).alloc (by simp;omega) _⟩
 have N1:Hid (((((w.alloc (.cells #[.slice none 0 0] 30)).alloc (.cells #[.int .i64 0] 31)).alloc (.cells #[.slice none 0 0] 30)).alloc (.cells #[.slice none 0 0] 125)).heap.size=w.heap.size+4):=by show _=_;simp
 clear h hg hf
 refine callsIn_of_wp_marks Tryz.func30 rfl trivial ?_ rfl
 simp only[Tryz.ntmps30,List.size_toArray,List.length_cons,List.length_nil,Nat.reduceAdd,Nat.reduceSub,Array.replicate_succ,Array.replicate_zero,List.push_toArray,List.append_toArray,List.nil_append,List.cons_append]
 gi_wp2
 generalize(((w.alloc (.cells #[.slice none 0 0] 30)).alloc (.cells #[.int .i64 0] 31)).alloc (.cells #[.slice none 0 0] 30)).alloc (.cells #[.slice none 0 0] 125)=w1 at*
 have SR:=Lib.hid (HS.out.kp (KpC.of_below _ _ _ G1.out.below))
 obtain⟨i0,hi,hz0,hz1,hz2⟩:=info_parts info_sl
 refine wpIn_rangeFunc_ownH rfl (by omega) (gf:=61) (lb:= #[.pointer (some ⟨zb,0,none⟩),.pointer (some ⟨db,0,none⟩)]) rfl trivial (enters_of Tryz.func61 (by kernel_rfl) rfl)
  (recs_stops 7 (by omega) SR.out ⟨by decide,by decide,by decide,by decide⟩ HG.out) (fun h k=>h.trans k) (fun W l o o' hl h hc _=>KpC.put hl h hc) (Below.refl _ _) (fun _=>rfl)
  (fun pre W=>∃k A c ps,Gath w W pre k A c ps)
  (fun _ _ _=>False)
  (gath_own w G1.out.below.size)
  (fun _ _ _ _ _ hs _ _=>hs)
  ⟨0,none,0,[],G1.out⟩
  (fun x a' W=>∃Bx,w.heap.size+4≤Bx∧PBox W Bx x∧a'= {tmps:= #[.func (.func 61) #[] #[.pointer (some ⟨zb,0,none⟩),.pointer (some ⟨db,0,none⟩)],undef,.pointer (some ⟨w.heap.size,0,none⟩),.pointer (some ⟨w.heap.size+1,0,none⟩),.pointer (some ⟨w.heap.size+2,0,none⟩),.pointer (some ⟨w.heap.size+3,0,none⟩),.pointer (some ⟨Bx,0,none⟩),undef,undef,undef,.func (.func 61) #[] #[.pointer (some ⟨zb,0,none⟩),.pointer (some ⟨db,0,none⟩)],plv x.1,undef,undef,undef,undef,undef,undef,undef,undef,undef,undef,undef,undef,undef,undef,undef,undef,undef,undef,undef,undef,undef,undef,undef,undef,undef,undef,undef,undef,undef,undef,undef,undef,undef,undef,undef,undef,undef,undef,undef,undef,undef,undef],defers:= []})
  (fun x a' _ W W' row hs hg hr=>by
   obtain⟨Bx,h1,h2,h3⟩:=hs
   exact⟨Bx,h1,cells_kept h2 hg (fun r e=>(hr r e).2),h3⟩) ?assign ?body ?done ?stop
 case assign=>
  rintro l pre x W K ⟨k,A,c,ps,hG⟩ hK
  unfold encP plv
  gi_wp2
  exact hK _ _ ((KeepsOthers.alloc _ _).from _) (KpC.of_below _ _ _ ((Below.refl _ W).alloc (Nat.le_refl _) _)) ⟨k,A,c,ps,hG.below' ((Below.refl _ W).alloc (Nat.le_refl _) _)⟩ ⟨W.heap.size,by have:=hG.box.lt;omega,Cells.new _ _ _,rfl⟩
 case body=>
  rintro l pre x a' W hl ⟨r,hr⟩ ⟨k,A,c,ps,hG⟩ ⟨Bx,hBx,bX,rfl⟩ hlt
  have HGA:=Lib.hid hG
  have HLT:=Lib.hid hlt
  have hgd:=x.2
  have HAP:=Lib.hid (apply_any (w:=W) hgd.fit hgd.chk hgd.kind hgd.z0 hgd.o0 hgd.o1 hgd.may (by have:=(Seg.check_ok hgd.chk).2;omega))
  have n0:W.cell? ⟨Bx,0,none⟩=some (.int .i64 x.1.y.r.kind):=Cells.cell bX 0
  have n1:W.cell? ⟨Bx,1,none⟩=some (.int .i64 x.1.y.r.lba):=Cells.cell bX 1
  have n2:W.cell? ⟨Bx,2,none⟩=some (.int .i64 x.1.y.r.n):=Cells.cell bX 2
  have n3:W.cell? ⟨Bx,3,none⟩=some (.int .i64 x.1.y.r.ver):=Cells.cell bX 3
  have n4:W.cell? ⟨Bx,4,none⟩=some (.int .i64 x.1.y.r.zone):=Cells.cell bX 4
  have n5:W.cell? ⟨Bx,5,none⟩=some (.int .i64 x.1.y.r.off):=Cells.cell bX 5
  have n6:W.cell? ⟨Bx,6,none⟩=some (.slice x.1.y.D x.1.y.r.data.length x.1.y.c):=Cells.cell bX 6
  have n7:W.cell? ⟨Bx,7,none⟩=some (.int .i64 x.1.z):=Cells.cell bX 7
  have n8:W.cell? ⟨Bx,8,none⟩=some (.int .i64 x.1.o):=Cells.cell bX 8
  have hkp:k≤59:=by have:=hG.len;have:=HF.out;omega
  unfold rvV at HAP
  have HEX:Hid (exR x.1.y.r x.1.z x.1.o=exT (plain x)):=rfl
  rw[HEX.out] at HAP
  clear hgd hG hlt
  gi_wp2_with (first
   |(refine⟨trivial,?_⟩
     gi_at_call 59
     refine(CallsIn.inRound l (callsIn_wide.2 HAP.out)).mono ?_
     rintro e w2 ⟨⟨B,m,d,rfl,hO⟩,hb⟩
     have hm1:m=1:=hO.2.symm
     subst hm1
     have O2:=Lib.hid (OwnsL.mono hO HGA.out.below.size)
     have G2:=Lib.hid (HGA.out.below' hb)
     have K2:=Lib.hid hb
     clear hO hb n0 n1 n2 n3 n4 n5 n6 n7 n8
     have q0:w2.cell? ⟨w.heap.size+3,0,none⟩=some (.slice A k c):=Cells.cell G2.out.box 0)
   |(gi_at_builtin
     refine wpListIn_append_own _ rfl (.tmp 24) (.tmp 26) 125 rfl (w.heap.size+4) 30 i0 (.slice none 0 0) 1 24 Tryz.underlying125 hi hz0 hz1 hz2 rfl (by decide) _ _ _ rfl (Mem.Owns.alloc G2.out.row _) ⟨w2.heap.size,0,none⟩ 1 1 [.slice B 1 d] rfl rfl (cell_one_new _ _ _) (by simp[Value.oneCell']) (by unfold maxLen;omega) (by omega) (by have:=G2.out.box.lt;simp;omega) ?_
     intro v' w3 hown hgrow _
     generalize hk':k+1=k' at*
     have hown':Mem.Owns Piece.val 30 (w.heap.size+4) w3 v' k' (ps++ [⟨B,1,d,[exT (plain x)]⟩]):=by
      show World.ownsRow _ _ _ _ _ _ _
      rw[List.map_append]
      exact hown
     obtain⟨A',c',rfl⟩:=hown'.slice
     have P3:=Lib.hid (G2.out.push hk'.symm O2.out hown' hgrow)
     have hkl:(k':Int)<256:=by omega
     have q1:w3.frozen? ⟨w.heap.size+3,0,none⟩=false:=by have:=Cells.frozen P3.out.1.box 0;rwa [World.frozen?_setCell] at this
     have q2:(w3.setCell ⟨w.heap.size+3,0,none⟩ (.slice A' k' c')).cell? ⟨w.heap.size+3,0,none⟩=some (.slice A' k' c'):=Cells.cell P3.out.1.box 0
     have q3:w3.cell? ⟨w.heap.size+3,0,none⟩=some (.slice A k c):=Cells.cell P3.out.2.2.2 0
     clear hown hown' hgrow q0))
  exact⟨((keeps_below K2.out).trans P3.out.2.2.1).from _,(KpC.of_below _ _ _ K2.out).trans P3.out.2.1,_,_,_,_,P3.out.1⟩
 case done=>
  rintro D' ys W hD hys ⟨k,A,c,ps,hG⟩ hK
  have hj:joined ps=(trAll fs zs).map exT:=by rw[hG.joined_eq,←hys,List.map_map];rfl
  have hkn:k≤60:=by
   have h1:=hG.len
   have h2:=congrArg List.length hys
   rw[List.length_map] at h2
   have:=HF.out
   omega
  have hjm:∀x∈joined ps,MayX x:=by
   rw[hG.joined_eq]
   intro x hx
   obtain⟨y,-,rfl⟩:=List.mem_map.1 hx
   exact y.2.may
  have HOF:=Lib.hid (offered_any (Wire.gave_row hG.row (by have:=hG.row.len;omega)).1 (fun p hp=>OwnsL.row (hG.all p hp).2 (by rw[(hG.all p hp).1];omega)) hjm (by rw[hj,List.length_map];exact HF.out) (by rw[hG.total_eq];exact hkn))
  rw[hj] at HOF
  have HGA:=Lib.hid hG
  have HKD:=Lib.hid hK
  have HDD:=Lib.hid hD
  have q4:W.cell? ⟨w.heap.size+1+1,0,none⟩=some (.slice none 0 0):=Cells.cell hG.mbox 0
  have q5:W.cell? ⟨w.heap.size+1+1+1,0,none⟩=some (.slice A k c):=Cells.cell hG.box 0
  clear hG hj hjm hK hD
  gi_wp2_with (refine⟨trivial,?_⟩
               gi_at_call 60
               refine(callsIn_wide.2 HOF.out).mono ?_
               rintro e w5 ⟨m,hof,⟨B,n,d,rfl,hO⟩,hb⟩
               have F5:=Lib.hid hof
               have O5:=Lib.hid hO
               have K5:=Lib.hid hb
               have G5:=Lib.hid (HGA.out.below' hb)
               clear hof hO hb q4 q5
               have r0:w5.cell? ⟨w.heap.size,0,none⟩=some (.slice none 0 0):=Cells.cell G5.out.r2 0
               have r1:w5.cell? ⟨w.heap.size+1,0,none⟩=some (.int .i64 0):=Cells.cell G5.out.r3 0
               have f0:=Cells.frozen G5.out.r2 0
               have f1:=Cells.frozen G5.out.r3 0)
  have c0:Cells ((w5.setCell ⟨w.heap.size,0,none⟩ (.slice B n d)).setCell ⟨w.heap.size+1,0,none⟩ (.int .i64 0)) w.heap.size 30 #[.slice B n d]:=Cells.set_other (by simpa using Cells.set_ G5.out.r2 0 (.slice B n d)) (by omega) 0 _
  have c1:Cells ((w5.setCell ⟨w.heap.size,0,none⟩ (.slice B n d)).setCell ⟨w.heap.size+1,0,none⟩ (.int .i64 0)) (w.heap.size+1) 31 #[.int .i64 0]:=by simpa using Cells.set_ (Cells.set_other G5.out.r3 (by omega:w.heap.size≠w.heap.size+1) 0 (.slice B n d)) 0 (.int .i64 0)
  have hsz:=HGA.out.below.size
  have hKF:((w5.setCell ⟨w.heap.size,0,none⟩ (.slice B n d)).setCell ⟨w.heap.size+1,0,none⟩ (.int .i64 0)).heap[D']? =some (.deferred (some [])):=
   (KeepsOthers.setCell _ _ _).same D' _ ((KeepsOthers.setCell _ _ _).same D' _ ((K5.out.block D' (Array.getElem?_eq_some_iff.1 HKD.out).1).trans HKD.out) rfl) rfl
  have L6:Below w.heap.size w ((w5.setCell ⟨w.heap.size,0,none⟩ (.slice B n d)).setCell ⟨w.heap.size+1,0,none⟩ (.int .i64 0)):=(G5.out.below.setCell (p:=⟨w.heap.size,0,none⟩) (Nat.le_refl _) _).setCell (p:=⟨w.heap.size+1,0,none⟩) (by show w.heap.size≤w.heap.size+1;omega) _
  have O6:OwnsL w.heap.size ((w5.setCell ⟨w.heap.size,0,none⟩ (.slice B n d)).setCell ⟨w.heap.size+1,0,none⟩ (.int .i64 0)) (.slice B n d) n m:=by
   have h1:OwnsL w.heap.size w5 (.slice B n d) n m:=OwnsL.mono O5.out hsz
   have h2:=(Chg.set1 G5.out.r2 0 (.slice B n d)).owns (cells:=Ext.cellsL) (k:=5) h1 (by decide)
   exact(Chg.set1 (Cells.set_other G5.out.r3 (by omega:w.heap.size≠w.heap.size+1) 0 (.slice B n d)) 0 (.int .i64 0)).owns (cells:=Ext.cellsL) (k:=5) h2 (by decide)
  generalize(w5.setCell ⟨w.heap.size,0,none⟩ (.slice B n d)).setCell ⟨w.heap.size+1,0,none⟩ (.int .i64 0)=w6 at*
  have hput:=grownBy_putObj' w6 D' (.deferred none)
  have hrow:∀r,some D'=some r→∃o:Obj,w6.heap[r]? =some o∧o.isCells=false:=fun r e=>by cases e;exact⟨_,hKF,rfl⟩
  have d0:=Cells.cell (cells_kept c0 hput hrow) 0
  have d1:=Cells.cell (cells_kept c1 hput hrow) 0
  refine⟨by simp,.inl ⟨_,_,rfl,run_takeDeferred hKF,?_⟩⟩
  refine⟨.tuple #[.slice B n d,.int .i64 0],?_,m,F5.out,⟨B,n,d,rfl,kept_rowL O6 hput hrow⟩,L6.grown hput L6.size (fun q e=>by injection e with e;have:=HDD.out;have:=N1.out;omega)⟩
  simp[results,Tryz.f30,asAddr,d0,d1,go_sem]
 case stop=>
  rintro D' c pre W _ _ h _
  exact h.elim
end Rp
end
section
open Go.RowKit Go.Shelf Mem Box
namespace Rp
open Zns (Dx DevAt okD check_dev dxv)
open Ext (GaveE OwnsL)
open Vm (Offd)
theorem index_none (fv:Value) (w:World):Calls Tryz.prog 58 #[.slice none 0 0,fv] w fun e w'=>e= .returned (.int .i64 (-1))∧w'=w:=by
 go_enter Tryz.func58,Tryz.ntmps58
 go_wp2
 refine wp_loop_rounds 1 ?_
 rw[rounds_succ]
 go_wp2
 go_ret
 exact⟨rfl,rfl⟩
theorem contains_none (fv:Value) (w:World):Calls Tryz.prog 29 #[.slice none 0 0,fv] w fun e w'=>e= .returned (.bool false)∧w'=w:=by
 have HI:=fun w=>Lib.hid (index_none fv w)
 go_enter Tryz.func29,Tryz.ntmps29
 go_wp2_with (go_at_call 58;refine(HI _).out.mono ?_;rintro e w2 ⟨rfl,rfl⟩)
 go_ret
 exact⟨rfl,rfl⟩
theorem mapOf_any {X:Dx} {fs:List Fd} {zs:List Nat} {zb db IC:Nat} {IA:Option Addr} {w:World} (h:Src [] [30,125] w.heap.size X fs zs zb db IA IC w) (hg:AllGood fs zs) (hf:(trAll fs zs).length≤60):
  Calls Tryz.prog 30 #[.func (.func 61) #[] #[.pointer (some ⟨zb,0,none⟩),.pointer (some ⟨db,0,none⟩)]] w fun e w'=>∃m,Offd ((trAll fs zs).map exT) m∧GaveE w m 0 e w':=(callsIn_wide (n:=8)).1 (mapOf_in h hg hf)
theorem map_all {X:Dx} {fs:List Fd} {w:World} (h:Dev w X fs) (hg:AllGood fs (List.range X.n)) (hf:(trAll fs (List.range X.n)).length≤60):
  Calls Tryz.prog 10 #[.agg #[.int .i64 X.cap,.int .i64 X.op,.int .i64 X.ac,.slice X.A X.n X.c],.slice none 0 0] w fun e w'=>∃m,Offd ((trAll fs (List.range X.n)).map exT) m∧GaveE w m 0 e w':=by
 have HC:=fun W (hW:Below w.heap.size w W)=>Lib.hid (check_dev (h.at_.below hW))
 unfold dxv at HC
 rw[h.ok] at HC
 have e0:Zon.errOf true=0:=rfl
 rw[e0] at HC
 have HA:=fun W (hW:Below w.heap.size w W)=>Lib.hid (all_any (h.at_.below hW) h.ok)
 have HRM:=fun A n c w=>Lib.hid (@recs_made X A n c w)
 have HD:=Lib.hid h
 have HG:=Lib.hid hg
 have HF:=Lib.hid hf
 have hfew:=h.few
 have HN:=fun fv w=>Lib.hid (contains_none fv w)
 have hmf:∀(fn:Fn) (first cap:Array Value) (w:World),(Instr.makeFunc fn first cap).run Tryz.prog w= .ok (.func fn first cap) w:=fun _ _ _ _=>rfl
 have L1:=Lib.hid ((Below.refl w.heap.size w).alloc (Nat.le_refl _) (.cells #[.int .i64 X.cap,.int .i64 X.op,.int .i64 X.ac,.slice X.A X.n X.c] 26))
 have B1:=Lib.hid (box_new w X)
 clear h hg hf e0
 go_enter Tryz.func10,Tryz.ntmps10
 go_upto_region 1 with fail
 generalize w.alloc (.cells #[.int .i64 X.cap,.int .i64 X.op,.int .i64 X.ac,.slice X.A X.n X.c] 26)=w1 at*
 have m0:w1.cell? ⟨w.heap.size,0,none⟩=some (.int .i64 X.cap):=Cells.cell B1.out 0
 have m1:w1.cell? ⟨w.heap.size,1,none⟩=some (.int .i64 X.op):=Cells.cell B1.out 1
 have m2:w1.cell? ⟨w.heap.size,2,none⟩=some (.int .i64 X.ac):=Cells.cell B1.out 2
 have m3:w1.cell? ⟨w.heap.size,3,none⟩=some (.slice X.A X.n X.c):=Cells.cell B1.out 3
 go_upto_region 5 with(first
  |(go_at_call 28;refine(HC w1 L1.out).out.mono ?_;rintro e w2 ⟨rfl,hb⟩;have L2:=Lib.hid (L1.out.trans (hb.mono L1.out.size));have B2:=Lib.hid (Cells.below B1.out hb);clear hb)
  |(go_at_call 29;refine(HN _ _).out.mono ?_;rintro e w3 ⟨rfl,hw3⟩;obtain rfl:=hw3.symm;clear hw3))
 clear m0 m1 m2 m3 HC HN
 have HS:=fun W (hW:Below w2.heap.size w2 W)=>(show W.cell? ⟨w.heap.size,0,none⟩=some (.int .i64 X.cap)∧W.cell? ⟨w.heap.size,1,none⟩=some (.int .i64 X.op)∧W.cell? ⟨w.heap.size,2,none⟩=some (.int .i64 X.ac)∧W.cell? ⟨w.heap.size,3,none⟩=some (.slice X.A X.n X.c) from⟨Cells.cell (Cells.below B2.out hW) 0,Cells.cell (Cells.below B2.out hW) 1,Cells.cell (Cells.below B2.out hW) 2,Cells.cell (Cells.below B2.out hW) 3⟩)
 have N2:Hid (Below w2.heap.size w2 w2):=Below.refl _ _
 have N3:=Lib.hid (N2.out.drew)
 refine wp_region_held_drew (S:=fun W=>W.cell? ⟨w.heap.size,0,none⟩=some (.int .i64 X.cap)∧W.cell? ⟨w.heap.size,1,none⟩=some (.int .i64 X.op)∧W.cell? ⟨w.heap.size,2,none⟩=some (.int .i64 X.ac)∧W.cell? ⟨w.heap.size,3,none⟩=some (.slice X.A X.n X.c)) (by kernel_rfl) (HS _ N3.out) (fun hHeld=> ?_)
 generalize w2.drew=w3 at*
 refine Reg.tk 0 rfl ?_
 refine Reg.tk 1 rfl ?_
 refine Reg.step 2 rfl (by kernel_rfl) (by rfl) (fun K hK=> ?_)
 go_simp
 refine(HA w3 (L2.out.trans (N3.out.mono L2.out.size))).out.mono ?_
 rintro e w4 ⟨IA,IC,rfl,hO,hb⟩
 have O4:=Lib.hid hO
 have N4:=Lib.hid (N3.out.trans (hb.mono N3.out.size))
 clear hO hb
 refine hK.out _ _ (HS _ N4.out) (fun hHeld=> ?_)
 clear hK K
 (try simp only[Act.put,List.setIfInBounds_toArray,List.set_cons_zero,List.set_cons_succ])
 refine Reg.step 3 rfl (by kernel_rfl) (by rfl) (fun K hK=> ?_)
 go_simp
 refine(HRM _ _ _ w4).out.mono ?_
 rintro e w5 ⟨rfl,hw5⟩
 have N5:Hid (Below w2.heap.size w2 w5):=by rw[hw5];exact(N4.out.alloc N4.out.size _).alloc (Nat.le_trans N4.out.size (by simp)) _
 have O5:Hid (OwnI w3.heap.size w5 IA X.n IC (iota X.n)):=by rw[hw5];exact Mem.Owns.alloc (Mem.Owns.alloc O4.out _) _
 have D5:Hid (Cells w5 w4.heap.size 26 #[.int .i64 X.cap,.int .i64 X.op,.int .i64 X.ac,.slice X.A X.n X.c]):=by rw[hw5];exact Cells.alloc (Cells.new _ _ _) _
 have Z5:Hid (Cells w5 (w4.heap.size+1) 34 #[.slice IA X.n IC]):=by
  rw[hw5]
  have:=Cells.new (w4.alloc (.cells #[.int .i64 X.cap,.int .i64 X.op,.int .i64 X.ac,.slice X.A X.n X.c] 26)) #[.slice IA X.n IC] 34
  rwa [World.size_alloc] at this
 clear hw5
 refine hK.out _ _ (HS _ N5.out) (fun hHeld=> ?_)
 clear hK K
 (try simp only[Act.put,List.setIfInBounds_toArray,List.set_cons_zero,List.set_cons_succ])
 have L5:=Lib.hid (L2.out.trans (N5.out.mono L2.out.size))
 have HMO:=Lib.hid (mapOf_any (src_of (zs:=List.range X.n) (S:= []) (T:= [30,125]) (base:=w3.heap.size) HD.out L5.out (by rw[List.length_range];exact O5.out) (fun z hz=>by simpa using hz) (by simp;omega) (by rw[List.length_range];exact Z5.out) D5.out (by simp) (by simp) (by simp)) HG.out HF.out)
 refine Reg.step 4 rfl (by kernel_rfl) (by rfl) (fun K hK=> ?_)
 go_simp
 refine HMO.out.mono ?_
 rintro e w6 ⟨m,hof,⟨B,n,d,rfl,hO⟩,hb⟩
 have F6:=Lib.hid hof
 have O6:=Lib.hid (OwnsL.mono hO L5.out.size)
 have N6:=Lib.hid (N5.out.trans (hb.mono N5.out.size))
 clear hof hO hb
 refine hK.out _ _ (HS _ N6.out) (fun hHeld=> ?_)
 clear hK K
 (try simp only[Act.put,List.setIfInBounds_toArray,List.set_cons_zero,List.set_cons_succ])
 refine Reg.tk 5 rfl ?_
 refine Reg.tk 6 rfl ?_
 refine Reg.tk 7 rfl ?_
 refine Reg.tk 8 rfl ?_
 refine wpAnyH_done (by kernel_rfl) ?_ _
 clear hHeld
 go_wp2_with fail
 go_ret2
 exact⟨m,F6.out,⟨B,n,d,rfl,O6.out⟩,L2.out.trans (N6.out.mono L2.out.size)⟩
end Rp
end
section
open Go.RowKit Mem Zns
namespace Rp
open Ext (MayX Ok Ends tell has blk stackP overE joinE putE lookP rangeB rangeB_iff Full)
open Vm (Offd byVer Tg)
open Zon (Zn Zv B8)
theorem stack_tell {k:Int} (hk:0≤k) {n:Nat}:∀ {e:List Ext.Ex},e.length≤n→(∀x∈e,MayX x)→tell (stackP e) k=tell e.reverse k:=by
 induction n with
 |zero=>
  intro e hn _
  rw[List.eq_nil_of_length_eq_zero (by omega:e.length=0),Ext.stackP_one (by simp)];rfl
 |succ n ih=>
  intro e hn hm
  by_cases h1:e.length≤1
  ·rw[Ext.stackP_one h1]
   rcases e with _|⟨x,_|⟨y,r⟩⟩
   ·rfl
   ·rfl
   ·simp at h1
  ·have ha:∀x∈e.take (e.length/2),MayX x:=fun x hx=>hm x (List.mem_of_mem_take hx)
   have hb:∀x∈e.drop (e.length/2),MayX x:=fun x hx=>hm x (List.mem_of_mem_drop hx)
   have oa:=(Ext.stack_ok (Nat.le_refl _) ha).1
   have ob:=(Ext.stack_ok (Nat.le_refl _) hb).1
   rw[Ext.stackP_many h1]
   unfold overE
   rw[Ext.tell_over oa ob,if_pos hk,ih (by rw[List.length_take];omega) ha,ih (by rw[List.length_drop];omega) hb,←Ext.tell_append,←List.reverse_append,List.take_append_drop]
theorem tell_first {k:Int}:∀ {l:List Ext.Ex} {b:Int × Int × Int},tell l k=some b→∃pre x post,l=pre++x::post∧has x k∧b=blk x k
 | [],b,h=>by cases h
 |x::r,b,h=>by
  rw[tell] at h
  by_cases hx:has x k
  ·rw[if_pos hx] at h
   injection h with h
   exact⟨[],x,r,rfl,hx,h.symm⟩
  ·rw[if_neg hx] at h
   obtain⟨p,y,q,e,h1,h2⟩:=tell_first h
   exact⟨x::p,y,q,by rw[e];rfl,h1,h2⟩
theorem tell_none {k:Int}:∀ {l:List Ext.Ex},tell l k=none→∀x∈l,¬has x k
 | [],_,x,hx=>by cases hx
 |y::r,h,x,hx=>by
  rw[tell] at h
  by_cases hy:has y k
  ·rw[if_pos hy] at h;cases h
  ·rw[if_neg hy] at h
   rcases List.mem_cons.1 hx with rfl|q
   ·exact hy
   ·exact tell_none h x q
theorem tell_uppermost {k:Int}:∀ {l:List Ext.Ex} {b:Int × Int × Int},l.Pairwise (fun x y=>y.ver≤x.ver)→tell l k=some b→∃x∈l,has x k∧b=blk x k∧∀y∈l,has y k→y.ver≤x.ver
 | [],b,_,h=>by cases h
 |x::r,b,hp,h=>by
  rw[tell] at h
  by_cases hx:has x k
  ·rw[if_pos hx] at h
   injection h with h
   refine⟨x,by simp,hx,h.symm,fun y hy hk=> ?_⟩
   rcases List.mem_cons.1 hy with rfl|q
   ·exact Int.le_refl _
   ·exact(List.pairwise_cons.1 hp).1 y q
  ·rw[if_neg hx] at h
   obtain⟨y,hy,h1,h2,h3⟩:=tell_uppermost (List.pairwise_cons.1 hp).2 h
   refine⟨y,by simp[hy],h1,h2,fun z hz hk=> ?_⟩
   rcases List.mem_cons.1 hz with rfl|q
   ·exact absurd hk hx
   ·exact h3 z q hk
section
variable {l m:List Ext.Ex}
theorem offd_mem {r:List Tg} (hp:r.Perm l.reverse.zipIdx) (x:Ext.Ex):x∈r.map Prod.fst↔x∈l:=by
 have h1:(r.map Prod.fst).Perm l.reverse:=by
  have:=hp.map Prod.fst
  rw[List.zipIdx_map_fst] at this
  exact this
 rw[h1.mem_iff,List.mem_reverse]
theorem offd_ok (hm:∀x∈l,MayX x) (h:Offd l m):Ok 0 m:=by
 obtain⟨r,hp,-,rfl⟩:=h
 exact Ext.put_ok (l:= []) (f:=0) trivial fun x hx=>hm x ((offd_mem hp x).1 hx)
theorem offd_tell (hm:∀x∈l,MayX x) (h:Offd l m) {k:Int} (hk:0≤k):(tell m k=none∧∀x∈l,¬has x k)∨∃x∈l,has x k∧tell m k=some (blk x k)∧∀y∈l,has y k→y.ver≤x.ver:=by
 obtain⟨r,hp,hv,rfl⟩:=h
 have hmr:∀x∈r.map Prod.fst,MayX x:=fun x hx=>hm x ((offd_mem hp x).1 hx)
 have os:=(Ext.stack_ok (Nat.le_refl _) hmr).1
 have e:tell (putE [] (r.map Prod.fst)) k=tell (r.map Prod.fst).reverse k:=by
  unfold putE overE
  rw[Ext.join_tell (Ext.ok_over (g:=0) (l:= []) trivial os)]
  rw[Ext.tell_over (g:=0) (l:= []) trivial os,if_pos hk,stack_tell hk (Nat.le_refl _) hmr]
  cases tell (r.map Prod.fst).reverse k<;>rfl
 have hs:(r.map Prod.fst).reverse.Pairwise (fun x y=>y.ver≤x.ver):=by
  rw[List.pairwise_reverse,List.pairwise_map]
  exact hv.imp fun {a b} q=>by rcases q with q|q<;>omega
 rw[e]
 rcases ht:tell (r.map Prod.fst).reverse k with _|b
 ·exact .inl ⟨rfl,fun x hx=>tell_none ht x (List.mem_reverse.2 ((offd_mem hp x).2 hx))⟩
 ·obtain⟨x,hx,h1,h2,h3⟩:=tell_uppermost hs ht
  exact .inr ⟨x,(offd_mem hp x).1 (List.mem_reverse.1 hx),h1,by rw[h2],fun y hy=>h3 y (List.mem_reverse.2 ((offd_mem hp y).2 hy))⟩
end
theorem tell_mem {j:Int}:∀ {f:Int} {l:List Ext.Ex},Ok f l→∀x∈l,has x j→tell l j=some (blk x j)
 |f,[],_,x,hx,_=>by cases hx
 |f,y::r,h,x,hx,hj=>by
  rw[tell]
  rcases List.mem_cons.1 hx with rfl|q
  ·rw[if_pos hj]
  ·have hlo:=h.2.2.from x q
   have:¬has y j:=fun hy=>by unfold has at hy hj;omega
   rw[if_neg this]
   exact tell_mem h.2.2 x q hj
def InB (X:Dx) (b:Int × Int × Int):Prop:=b.2.1= -1∨∃(k:Nat) (v:Zv),b.2.1=(k:Int)∧X.xs[k]? =some v∧b.2.2+16≤(v.z.data.length:Int)
theorem inx_look {X:Dx} {l:List Ext.Ex} {a k:Int} (hl:Ok 0 l) (hr:rangeB a k=true) (hP:∀j b,tell l j=some b→InB X b):∀x∈lookP l a k,InX X x:=by
 intro x hx
 have hf:=Ext.look_full hl hr
 obtain⟨hmx,hxn⟩:=(full_len hf).2 x hx
 have hn:=hmx.2.1
 have hxe:has x (x.en-1):=by unfold has Ext.Ex.en;omega
 have hlo:=hf.ok.from x hx
 have hen:x.en≤a+k:=by
  have key:∀ {l:List Ext.Ex} {f t:Int},Full f t l→∀x∈l,x.en≤t:=by
   intro l
   induction l with
   |nil=>intro f t _ x hx;cases hx
   |cons y r ih=>
    intro f t h x hx
    rcases List.mem_cons.1 hx with rfl|q
    ·exact h.2.2.le
    ·exact ih h.2.2 x q
  exact key hf x hx
 have ht:=tell_mem hf.ok x hx hxe
 have hj1:a≤x.en-1:=by unfold Ext.Ex.en;omega
 rw[Ext.look_tell hl hr hj1 (by omega)] at ht
 injection ht with ht
 rcases hq:tell l (x.en-1) with _|b
 ·rw[hq] at ht
  have:=congrArg (fun b:Int × Int × Int=>b.2.1) ht
  exact .inl this.symm
 ·rw[hq] at ht
  have hb:b=blk x (x.en-1):=ht
  have:=hP _ b hq
  rw[hb] at this
  rcases this with h|⟨i,v,h1,h2,h3⟩
  ·exact .inl h
  ·refine .inr ⟨i,v,h1,h2,?_⟩
   have hz:¬x.zone= -1:=by have:x.zone=(i:Int):=h1;omega
   have h3':(if x.zone= -1 then(0:Int) else x.off+16*(x.en-1-x.lba))+16≤(v.z.data.length:Int):=h3
   rw[if_neg hz] at h3'
   unfold Ext.Ex.en at h3'
   omega
end Rp
end
section
open Go.RowKit Mem Zon
namespace Zns
theorem isImp_any (z:Zn) (D:Option Addr) (c:Nat) (w:World):
  Calls Tryz.prog 192 #[zv z D c] w fun e w'=>e= .returned (.bool (z.st==1))∧Below w.heap.size w w':=by
 have L1:=Lib.hid ((Below.refl w.heap.size w).alloc (Nat.le_refl _) (.cells #[.int .i64 z.st,.int .i64 z.fc,.slice D z.data.length c] 46))
 unfold zv
 go_enter Tryz.func192,Tryz.ntmps192
 go_wp2_with fail
 go_ret
 exact⟨rfl,L1.out⟩
def impB (x:Zv):Bool:=x.z.st==1
def firstV (xs:List Zv):Int:=match xs.findIdx? impB with|none=> -1|some k=>(k:Int)
theorem firstV_map (xs:List Zv):xs.findIdx? impB=firstI (xs.map Zv.z):=by
 unfold firstI
 rw[List.findIdx?_map]
 rfl
theorem index_any {A:Option Addr} {n c:Nat} {xs:List Zv} {w:World} (h:RowS cellsZ 3 w A n c xs):
  Calls Tryz.prog 191 #[.slice A n c,.func (.func 192) #[] #[]] w fun e w'=>e= .returned (.int .i64 (firstV xs))∧Below w.heap.size w w':=by
 have HR:=Lib.hid h
 have hbig:=h.big
 have HI:=fun z D c w=>Lib.hid (isImp_any z D c w)
 unfold zv at HI
 clear h
 go_enter Tryz.func191,Tryz.ntmps191
 go_wp2_with fail
 go_loopw [8] (fun i wr=>∃k:Nat,i= .int .i64 k∧k≤n∧Hid ((∀j,j<k→∀x,xs[j]? =some x→impB x=false)∧Below w.heap.size w wr)) (fun i _=>n-(intOf i).toNat)
 case atStart=>exact⟨0,rfl,by omega,fun j hj=>by omega,Below.refl _ _⟩
 case round=>
  obtain⟨k,rfl,hk,hH⟩:=hrel
  by_cases hlt:k<n
  ·obtain⟨x,hx⟩:=HR.out.get hlt
   obtain⟨b,o,rfl,hb,hc⟩:=HR.out.elem hx
   have c0:wr.cell? ⟨b,o+k*3,none⟩=some (.int .i64 x.z.st):=hc wr (hH.out.2.block b hb) 0 _ rfl
   have c1:wr.cell? ⟨b,o+k*3+1,none⟩=some (.int .i64 x.z.fc):=hc wr (hH.out.2.block b hb) 1 _ rfl
   have c2:wr.cell? ⟨b,o+k*3+2,none⟩=some (.slice x.D x.z.data.length x.c):=hc wr (hH.out.2.block b hb) 2 _ rfl
   have hk0:(0:Int)≤(k:Int):=by omega
   have hk1:(k:Int)<(n:Int):=by omega
   have HX:=fun w=>HI x.z x.D x.c w
   have HE:=Lib.hid hx
   clear hc hx HI
   rcases hof:(x.z.st==1)
   ·rw[hof] at HX
    go_wp2_with fail
    refine(HX _).out.mono ?_
    rintro e w2 ⟨rfl,hb2⟩
    have L2:=Lib.hid (hH.out.2.trans (hb2.mono hH.out.2.size))
    clear hb2
    go_wp2_with fail
    go_roundw
    case rel=>
     refine⟨k+1,by go_num,by omega,fun j hj y hy=> ?_,L2.out⟩
     rcases Nat.lt_succ_iff_lt_or_eq.1 hj with h|rfl
     ·exact hH.out.1 j h y hy
     ·have:=HE.out.symm.trans hy;injection this with this;subst this;exact hof
    case measure=>simp[intOf];omega
   ·rw[hof] at HX
    go_wp2_with fail
    refine(HX _).out.mono ?_
    rintro e w2 ⟨rfl,hb2⟩
    have L2:=Lib.hid (hH.out.2.trans (hb2.mono hH.out.2.size))
    clear hb2
    go_wp2_with fail
    go_ret
    refine⟨?_,L2.out⟩
    have:xs.findIdx? impB=some k:=by
     rw[List.findIdx?_eq_some_iff_getElem]
     have hkl:k<xs.length:=by have:=HR.out.len;omega
     have hxk:xs[k]=x:=by have:=HE.out;rw[List.getElem?_eq_getElem hkl] at this;injection this
     refine⟨hkl,by rw[hxk];exact hof,fun j hj=> ?_⟩
     have:=hH.out.1 j hj _ (List.getElem?_eq_getElem (by omega))
     simp[this]
    unfold firstV
    rw[this]
    rfl
  ·have hkn:k=n:=by omega
   subst hkn
   go_wp2_with fail
   go_ret
   refine⟨?_,hH.out.2⟩
   have:xs.findIdx? impB=none:=by
    rw[List.findIdx?_eq_none_iff]
    intro x hx
    obtain⟨j,hj,rfl⟩:=List.mem_iff_getElem.1 hx
    exact hH.out.1 j (by have:=HR.out.len;omega) _ (List.getElem?_eq_getElem hj)
   unfold firstV
   rw[this]
   rfl
end Zns
end
end Go.Proofs.YtmkagjnkpjpjcaaGreat
