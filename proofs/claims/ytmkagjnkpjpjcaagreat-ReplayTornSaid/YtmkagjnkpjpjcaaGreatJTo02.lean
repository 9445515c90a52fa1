/-
  SEVERAL TEXTS IN ONE FILE: PRepMapZ, PRunPart, PTornP, PRepTorn, PRepTornA, PRunOpen, PRunTornM, PRunTorn.
-/
import Derived.Test.YtmkagjnkpjpjcaaGreatJTo01
import Derived.Test.YtmkagjnkpjpjcaaGreatJ15
import Derived.Test.YtmkagjnkpjpjcaaGreatJ02
import Derived.Test.YtmkagjnkpjpjcaaGreatJ13
import Derived.Test.YtmkagjnkpjpjcaaGreatJ04
import Derived.Test.YtmkagjnkpjpjcaaGreatJ19
import Derived.Test.YtmkagjnkpjpjcaaGreatJ05
namespace Go.Proofs.YtmkagjnkpjpjcaaGreat
set_option maxRecDepth 100000
set_option linter.unusedSimpArgs false
set_option linter.unusedVariables false
set_option maxHeartbeats 6400000
section
open Go.RowKit Go.Shelf Mem Box
namespace Rp
open Zns (Dx DevAt okD check_dev dxv)
open Ext (GaveE OwnsL)
open Vm (Offd)
section
variable {w:World} {A:Option Addr} {c n Bm:Nat} {l:List Int}
theorem sorted_n (hn:n=l.length) (hr:Row ci w A n c l) (hb:Cells w Bm 34 #[.slice A n c]) (hs:l.Pairwise (· < ·)) (hbig:n≤64):
  Calls Tryz.prog 34 #[.func (.func 65) #[] #[.pointer (some ⟨Bm,0,none⟩)]] w fun e w'=>∃B d,e= .returned (.slice B n d)∧OwnI w.heap.size w' B n d l∧Below w.heap.size w w':=by
 subst hn
 exact sorted_vals ⟨hr,hb⟩ (hs.imp Int.le_of_lt) (by omega)
theorem compact_n (hn:n=l.length) (hr:Row ci w A n c l) (hs:l.Pairwise (· < ·)):
  Calls Tryz.prog 33 #[.slice A n c] w fun e w'=>e= .returned (.slice A n c)∧Below w.heap.size w w':=by
 subst hn
 exact compact_rises hr hs
theorem contains_n (hn:n=l.length) (hr:Row ci w A n c l) {X:Dx} {dg:Nat} (h:Cells w dg 26 #[.int .i64 X.cap,.int .i64 X.op,.int .i64 X.ac,.slice X.A X.n X.c]) (hz:∀z∈l,0≤z∧z<(X.n:Int)):
  Calls Tryz.prog 29 #[.slice A n c,.func (.func 27) #[] #[.pointer (some ⟨dg,0,none⟩)]] w fun e w'=>e= .returned (.bool false)∧Below w.heap.size w w':=by
 subst hn
 exact contains_noneOf hr _ _ (enters_of Tryz.func27 (by kernel_rfl) rfl) (map_closure h hz)
end
theorem map_zones {X:Dx} {fs:List Fd} {zs:List Nat} {ZA:Option Addr} {zc n:Nat} {w:World} (h:Dev w X fs) (hn:n=zs.length) (hz:Row ci w ZA n zc (zs.map fun(z:Nat)=>(z:Int))) (hzr:zs.Pairwise (· < ·)) (hz0:0<n) (hz1:n≤64) (hzn:∀z∈zs,z<X.n) (hg:AllGood fs zs) (hf:(trAll fs zs).length≤60):
  Calls Tryz.prog 10 #[.agg #[.int .i64 X.cap,.int .i64 X.op,.int .i64 X.ac,.slice X.A X.n X.c],.slice ZA n zc] w fun e w'=>∃m,Offd ((trAll fs zs).map exT) m∧GaveE w m 0 e w':=by
 obtain⟨l,hl⟩:∃l,(zs.map fun(z:Nat)=>(z:Int))=l:=⟨_,rfl⟩
 rw[hl] at hz
 have hll:n=l.length:=by rw[←hl,List.length_map];exact hn
 have hlr:l.Pairwise (· < ·):=by rw[←hl,List.pairwise_map];exact hzr.imp fun h=>by omega
 have hlin:∀z∈l,0≤z∧z<(X.n:Int):=by
  rw[←hl]
  intro z hz
  obtain⟨y,hy,rfl⟩:=List.mem_map.1 hz
  have:=hzn y hy
  omega
 have HC:=fun W (hW:Below w.heap.size w W)=>Lib.hid (check_dev (h.at_.below hW))
 unfold dxv at HC
 rw[h.ok] at HC
 have e0:Zon.errOf true=0:=rfl
 rw[e0] at HC
 have HRM:=fun A n c w=>Lib.hid (@recs_made X A n c w)
 have HD:=Lib.hid h
 have HG:=Lib.hid hg
 have HF:=Lib.hid hf
 have HZ:=Lib.hid hz
 have HLL:=Lib.hid hll
 have HLR:=Lib.hid hlr
 have HL:=Lib.hid hl
 have HN:=Lib.hid hn
 have HZN:=Lib.hid hzn
 have hfew:=h.few
 have hnz:((n:Int)==0)=false:=beq_eq_false_iff_ne.2 (by omega)
 have HCN:=fun W (hW:Below w.heap.size w W) dg (h2:Cells W dg 26 #[.int .i64 X.cap,.int .i64 X.op,.int .i64 X.ac,.slice X.A X.n X.c])=>Lib.hid (contains_n hll (HZ.out.below hW) h2 hlin)
 have hmf:∀(fn:Fn) (first cap:Array Value) (w:World),(Instr.makeFunc fn first cap).run Tryz.prog w= .ok (.func fn first cap) w:=fun _ _ _ _=>rfl
 have L1:=Lib.hid ((Below.refl w.heap.size w).alloc (Nat.le_refl _) (.cells #[.int .i64 X.cap,.int .i64 X.op,.int .i64 X.ac,.slice X.A X.n X.c] 26))
 have B1:=Lib.hid (box_new w X)
 clear h hg hf e0 hz hll hlr hl hlin hzr hzn hn
 go_enter Tryz.func10,Tryz.ntmps10
 go_upto_region 1 with fail
 generalize w.alloc (.cells #[.int .i64 X.cap,.int .i64 X.op,.int .i64 X.ac,.slice X.A X.n X.c] 26)=w1 at*
 have m0:w1.cell? ⟨w.heap.size,0,none⟩=some (.int .i64 X.cap):=Cells.cell B1.out 0
 have m1:w1.cell? ⟨w.heap.size,1,none⟩=some (.int .i64 X.op):=Cells.cell B1.out 1
 have m2:w1.cell? ⟨w.heap.size,2,none⟩=some (.int .i64 X.ac):=Cells.cell B1.out 2
 have m3:w1.cell? ⟨w.heap.size,3,none⟩=some (.slice X.A X.n X.c):=Cells.cell B1.out 3
 go_upto_region 6 with(first
  |(go_at_call 28;refine(HC w1 L1.out).out.mono ?_;rintro e w2 ⟨rfl,hb⟩;have L2:=Lib.hid (L1.out.trans (hb.mono L1.out.size));have B2:=Lib.hid (Cells.below B1.out hb);clear hb)
  |(go_at_call 29;refine(HCN w2 L2.out _ B2.out).out.mono ?_;rintro e w3 ⟨rfl,hb⟩;have L3:=Lib.hid (L2.out.trans (hb.mono L2.out.size));have B3:=Lib.hid (Cells.below B2.out hb);clear hb))
 clear m0 m1 m2 m3 HC HCN B2 B1 L1 L2
 have HS:=fun W (hW:Below w3.heap.size w3 W)=>(show W.cell? ⟨w.heap.size,0,none⟩=some (.int .i64 X.cap)∧W.cell? ⟨w.heap.size,1,none⟩=some (.int .i64 X.op)∧W.cell? ⟨w.heap.size,2,none⟩=some (.int .i64 X.ac)∧W.cell? ⟨w.heap.size,3,none⟩=some (.slice X.A X.n X.c) from⟨Cells.cell (Cells.below B3.out hW) 0,Cells.cell (Cells.below B3.out hW) 1,Cells.cell (Cells.below B3.out hW) 2,Cells.cell (Cells.below B3.out hW) 3⟩)
 have M3:Hid (Below w3.heap.size w3 w3):=Below.refl _ _
 have N4:=Lib.hid (M3.out.drew)
 refine wp_region_held_drew (S:=fun W=>W.cell? ⟨w.heap.size,0,none⟩=some (.int .i64 X.cap)∧W.cell? ⟨w.heap.size,1,none⟩=some (.int .i64 X.op)∧W.cell? ⟨w.heap.size,2,none⟩=some (.int .i64 X.ac)∧W.cell? ⟨w.heap.size,3,none⟩=some (.slice X.A X.n X.c)) (by kernel_rfl) (HS _ N4.out) (fun hHeld=> ?_)
 generalize w3.drew=w4 at*
 refine Reg.tk 0 rfl ?_
 refine Reg.tk 1 rfl ?_
 refine Reg.step 2 rfl (by kernel_rfl) (by rfl) (fun K hK=> ?_)
 go_simp
 refine(vals_made ZA n zc w4).mono ?_
 rintro e w5 ⟨rfl,hw5⟩
 have N5:Hid (Below w3.heap.size w3 w5):=by rw[hw5];exact N4.out.alloc N4.out.size _
 have V5:Hid (Cells w5 w4.heap.size 34 #[.slice ZA n zc]):=by rw[hw5];exact Cells.new _ _ _
 clear hw5
 refine hK.out _ _ (HS _ N5.out) (fun hHeld=> ?_)
 clear hK K
 (try simp only[Act.put,List.setIfInBounds_toArray,List.set_cons_zero,List.set_cons_succ])
 have HSO:=Lib.hid (sorted_n HLL.out (HZ.out.below (L3.out.trans (N5.out.mono L3.out.size))) V5.out HLR.out hz1)
 refine Reg.step 3 rfl (by kernel_rfl) (by rfl) (fun K hK=> ?_)
 go_simp
 refine HSO.out.mono ?_
 rintro e w6 ⟨IA,IC,rfl,hO,hb⟩
 have O6:=Lib.hid hO
 have N6:=Lib.hid (N5.out.trans (hb.mono N5.out.size))
 clear hO hb HSO V5
 refine hK.out _ _ (HS _ N6.out) (fun hHeld=> ?_)
 clear hK K
 (try simp only[Act.put,List.setIfInBounds_toArray,List.set_cons_zero,List.set_cons_succ])
 have HCO:=Lib.hid (compact_n HLL.out (Wire.gave_row O6.out (by have:=HLL.out;omega)).1 HLR.out)
 refine Reg.step 4 rfl (by kernel_rfl) (by rfl) (fun K hK=> ?_)
 go_simp
 refine HCO.out.mono ?_
 rintro e w7 ⟨rfl,hb⟩
 have O7:=Lib.hid (Mem.Owns.below O6.out hb)
 have N7:=Lib.hid (N6.out.trans (hb.mono N6.out.size))
 clear hb HCO O6
 refine hK.out _ _ (HS _ N7.out) (fun hHeld=> ?_)
 clear hK K
 (try simp only[Act.put,List.setIfInBounds_toArray,List.set_cons_zero,List.set_cons_succ])
 refine Reg.step 5 rfl (by kernel_rfl) (by rfl) (fun K hK=> ?_)
 go_simp
 refine(HRM _ _ _ w7).out.mono ?_
 rintro e w8 ⟨rfl,hw8⟩
 have N8:Hid (Below w3.heap.size w3 w8):=by rw[hw8];exact(N7.out.alloc N7.out.size _).alloc (Nat.le_trans N7.out.size (by simp)) _
 have O8:Hid (OwnI w5.heap.size w8 IA n IC l):=by rw[hw8];exact Mem.Owns.alloc (Mem.Owns.alloc O7.out _) _
 have D8:Hid (Cells w8 w7.heap.size 26 #[.int .i64 X.cap,.int .i64 X.op,.int .i64 X.ac,.slice X.A X.n X.c]):=by rw[hw8];exact Cells.alloc (Cells.new _ _ _) _
 have Z8:Hid (Cells w8 (w7.heap.size+1) 34 #[.slice IA n IC]):=by
  rw[hw8]
  have:=Cells.new (w7.alloc (.cells #[.int .i64 X.cap,.int .i64 X.op,.int .i64 X.ac,.slice X.A X.n X.c] 26)) #[.slice IA n IC] 34
  rwa [World.size_alloc] at this
 clear hw8
 refine hK.out _ _ (HS _ N8.out) (fun hHeld=> ?_)
 clear hK K
 (try simp only[Act.put,List.setIfInBounds_toArray,List.set_cons_zero,List.set_cons_succ])
 have L8:=Lib.hid (L3.out.trans (N8.out.mono L3.out.size))
 have HMO:=Lib.hid (mapOf_any (src_of (zs:=zs) (S:= []) (T:= [30,125]) (base:=w5.heap.size) HD.out L8.out (by rw[HL.out,←HN.out];exact O8.out) HZN.out (by have:=HN.out;omega) (by rw[←HN.out];exact Z8.out) D8.out (by simp) (by simp) (by simp)) HG.out HF.out)
 refine Reg.step 6 rfl (by kernel_rfl) (by rfl) (fun K hK=> ?_)
 go_simp
 refine HMO.out.mono ?_
 rintro e w9 ⟨m,hof,⟨B,k,d,rfl,hO⟩,hb⟩
 have F9:=Lib.hid hof
 have O9:=Lib.hid (OwnsL.mono hO L8.out.size)
 have N9:=Lib.hid (N8.out.trans (hb.mono N8.out.size))
 clear hof hO hb
 refine hK.out _ _ (HS _ N9.out) (fun hHeld=> ?_)
 clear hK K
 (try simp only[Act.put,List.setIfInBounds_toArray,List.set_cons_zero,List.set_cons_succ])
 refine Reg.tk 7 rfl ?_
 refine Reg.tk 8 rfl ?_
 refine Reg.tk 9 rfl ?_
 refine Reg.tk 10 rfl ?_
 refine wpAnyH_done (by kernel_rfl) ?_ _
 clear hHeld
 go_wp2_with fail
 go_ret2
 exact⟨m,F9.out,⟨B,k,d,rfl,O9.out⟩,L3.out.trans (N9.out.mono L3.out.size)⟩
end Rp
end
section
open Go.RowKit Mem Box Zns
namespace Rp
open Vm (exR Offd)
open Ext (MayX Ok tell blk has rangeB RowL OwnsL atP)
abbrev Tb:=Int × Int × Int
def pick:Option Tb→Option Tb→Option Tb
 |a,none=>a
 |none,some t=>some t
 |some s,some t=>if s.1<t.1 then some t else some s
theorem trAll_append (fs:List Fd) (a b:List Nat):trAll fs (a++b)=trAll fs a++trAll fs b:=by unfold trAll;rw[List.flatMap_append]
theorem offd_len {l m:List Ext.Ex} (hm:∀x∈l,MayX x) (h:Offd l m) (hl:l.length≤40):m.length≤20000:=by
 obtain⟨r,hpm,hv,rfl⟩:=h
 have h2:=Vm.offd_may hm hpm
 have h3:=Vm.put_none_len h2.1
 rw[List.length_map,h2.2] at h3
 have h5:l.length*l.length≤40*40:=Nat.mul_le_mul (by omega) (by omega)
 omega
section
variable {n m:Nat} {L:Lg}
theorem tr_inj (h:LgOk n m L) {x y:Tr} (hx:x∈trAll (fsOf n L) (List.range n)) (hy:y∈trAll (fsOf n L) (List.range n)) (e:x.1.ver=y.1.ver):x=y:=by
 have h1:L.Pairwise fun a b=>a.2.ver≠b.2.ver:=h.rise.imp fun h=>by omega
 have h2:=((trAll_perm h).pairwise_iff (R:=fun a b:Nat × Seg.Rc=>a.2.ver≠b.2.ver) (fun {a b} q=>Ne.symm q)).2 h1
 have h3:=List.pairwise_map.1 h2
 obtain⟨i,hi,rfl⟩:=List.getElem_of_mem hx
 obtain⟨j,hj,rfl⟩:=List.getElem_of_mem hy
 rcases Nat.lt_trichotomy i j with q|rfl|q
 ·exact absurd e (List.pairwise_iff_getElem.1 h3 i j hi hj q)
 ·rfl
 ·exact absurd e.symm (List.pairwise_iff_getElem.1 h3 j i hj hi q)
theorem all_may (h:LgOk n m L) (hn:n≤4):∀x∈(trAll (fsOf n L) (List.range n)).map exT,MayX x:=fun x hx=>by
 obtain⟨t,ht,rfl⟩:=List.mem_map.1 hx
 exact((good_of h hn) t ht).may
theorem parts_tell (h:LgOk n m L) (hn:n≤4) {za zb:List Nat} (hz:List.range n=za++zb) {ma mb mc:List Ext.Ex} (h1:Offd ((trAll (fsOf n L) za).map exT) ma) (h2:Offd ((trAll (fsOf n L) zb).map exT) mb) (h3:Offd ((trAll (fsOf n L) (List.range n)).map exT) mc) {j:Int} (hj:0≤j):tell mc j=pick (tell ma j) (tell mb j):=by
 have hmay:=all_may h hn
 have hT:trAll (fsOf n L) (List.range n)=trAll (fsOf n L) za++trAll (fsOf n L) zb:=by rw[hz,trAll_append]
 have s1:∀x∈(trAll (fsOf n L) za).map exT,x∈(trAll (fsOf n L) (List.range n)).map exT:=fun x hx=>by rw[hT,List.map_append];exact List.mem_append_left _ hx
 have s2:∀x∈(trAll (fsOf n L) zb).map exT,x∈(trAll (fsOf n L) (List.range n)).map exT:=fun x hx=>by rw[hT,List.map_append];exact List.mem_append_right _ hx
 have s3:∀x∈(trAll (fsOf n L) (List.range n)).map exT,x∈(trAll (fsOf n L) za).map exT∨x∈(trAll (fsOf n L) zb).map exT:=fun x hx=>by rw[hT,List.map_append] at hx;exact List.mem_append.1 hx
 have hinj:∀x∈(trAll (fsOf n L) (List.range n)).map exT,∀y∈(trAll (fsOf n L) (List.range n)).map exT,x.ver=y.ver→x=y:=fun x hx y hy e=>by
  obtain⟨t,ht,rfl⟩:=List.mem_map.1 hx
  obtain⟨u,hu,rfl⟩:=List.mem_map.1 hy
  unfold exT at e
  rw[exR_ver,exR_ver] at e
  rw[tr_inj h ht hu e]
 rcases offd_tell (fun x hx=>hmay x (s1 x hx)) h1 hj with⟨e1,n1⟩|⟨x1,i1,c1,e1,g1⟩<;>
 rcases offd_tell (fun x hx=>hmay x (s2 x hx)) h2 hj with⟨e2,n2⟩|⟨x2,i2,c2,e2,g2⟩<;>
 rcases offd_tell hmay h3 hj with⟨e3,n3⟩|⟨x3,i3,c3,e3,g3⟩<;>rw[e1,e2,e3]
 ·rfl
 ·rcases s3 x3 i3 with q|q
  ·exact absurd c3 (n1 _ q)
  ·exact absurd c3 (n2 _ q)
 ·exact absurd c2 (n3 _ (s2 _ i2))
 ·rcases s3 x3 i3 with q|q
  ·exact absurd c3 (n1 _ q)
  ·have a1:=g2 _ q c3
   have a2:=g3 _ (s2 _ i2) c2
   rw[hinj _ i3 _ (s2 _ i2) (by omega)];rfl
 ·exact absurd c1 (n3 _ (s1 _ i1))
 ·rcases s3 x3 i3 with q|q
  ·have a1:=g1 _ q c3
   have a2:=g3 _ (s1 _ i1) c1
   rw[hinj _ i3 _ (s1 _ i1) (by omega)];rfl
  ·exact absurd c3 (n2 _ q)
 ·exact absurd c1 (n3 _ (s1 _ i1))
 ·have a1:=g3 _ (s1 _ i1) c1
  have a2:=g3 _ (s2 _ i2) c2
  show some (blk x3 j)=if x1.ver<x2.ver then some (blk x2 j) else some (blk x1 j)
  rcases s3 x3 i3 with q|q
  ·have a3:=g1 _ q c3
   rw[if_neg (by omega),hinj _ i3 _ (s1 _ i1) (by omega)]
  ·have a3:=g2 _ q c3
   by_cases e:x1.ver<x2.ver
   ·rw[if_pos e,hinj _ i3 _ (s2 _ i2) (by omega)]
   ·rw[if_neg e,hinj _ i3 _ (s1 _ i1) (by omega)]
end
def exO (j:Int):Option Tb→Ext.Ex
 |some t=>⟨j,1,t.1,t.2.1,t.2.2⟩
 |none=>⟨0,0,0,0,0⟩
theorem at_lba {l:List Ext.Ex} {a:Int} (hl:Ok 0 l) {x:Ext.Ex} (h:atP l a=some x):x.lba=a∧x.n=1:=by
 rcases hr:rangeB a 1
 ·rw[Ext.atP_bad hr] at h;cases h
 ·rw[Ext.atP_ok hr] at h
  have hok:Ok a (Ext.clips a (a+1) l):=Ext.ok_clips hl (by omega)
  have hen:=Ext.ends_clips a (a+1) l
  rcases e:Ext.clips a (a+1) l with _|⟨y,r⟩
  ·rw[e] at h;cases h
  ·rw[e] at h hok hen
   injection h with h
   subst h
   have hx:=Ext.en_lt hok.1
   have hx2:=hok.2.1
   have hx3:=hen y List.mem_cons_self
   unfold Ext.Ex.en at hx hx3
   omega
theorem at_full {l:List Ext.Ex} (hl:Ok 0 l) (a:Int):Ext.xvO (atP l a)=Ext.xv (exO a (tell l a))∧(atP l a).isSome=(tell l a).isSome:=by
 have h:=Ext.at_tell hl a
 rcases e:atP l a with _|x
 ·rw[e] at h
  rw[←h];exact⟨rfl,rfl⟩
 ·rw[e] at h
  obtain⟨h1,h2⟩:=at_lba hl e
  rw[←h]
  refine⟨?_,rfl⟩
  show Ext.xv x=Ext.xv ⟨a,1,x.ver,x.zone,x.off⟩
  rw[←h1,←h2]
theorem at_run {A:Option Addr} {n c:Nat} {l:List Ext.Ex} {w:World} (hA:RowL w A n c l) (hl:Ok 0 l) (hn:n≤20000) {j:Int} {t:Option Tb} (ht:tell l j=t):
  Calls Tryz.prog 19 #[.slice A n c,.int .i64 j] w fun e w'=>e= .returned (.tuple #[Ext.xv (exO j t),.bool t.isSome])∧Below w.heap.size w w':=by
 have h:=Ext.at_any hA hl (by omega) j
 rw[(at_full hl j).1,(at_full hl j).2,ht] at h
 exact h
section
variable {X:Dx} {n m:Nat} {L:Lg} {w:World}
structure PartOk (n:Nat) (L:Lg) (zs:List Nat) (mp:List Ext.Ex):Prop where
 ok:Ok 0 mp
 few:mp.length≤20000
 offd:Offd ((trAll (fsOf n L) zs).map exT) mp
theorem part_ok (hl:LgOk n m L) (hn:n≤4) (hm:m≤40) {zs:List Nat} (hs:∀x∈trAll (fsOf n L) zs,x∈trAll (fsOf n L) (List.range n)) (hlen:(trAll (fsOf n L) zs).length≤L.length) {mp:List Ext.Ex} (ho:Offd ((trAll (fsOf n L) zs).map exT) mp):PartOk n L zs mp:=by
 have hmay:∀x∈(trAll (fsOf n L) zs).map exT,MayX x:=fun x hx=>by
  obtain⟨t,ht,rfl⟩:=List.mem_map.1 hx
  exact all_may hl hn _ (List.mem_map.2 ⟨t,hs t ht,rfl⟩)
 exact⟨offd_ok hmay ho,offd_len hmay ho (by rw[List.length_map];have:=hl.few;omega),ho⟩
theorem all_run (hX:DevAt w X) (hp:X.p=dvOf n L) (hok:okD (dvOf n L)=true) (hn:n≤4) (hl:LgOk n m L) (hm:m≤40):
  Calls Tryz.prog 10 #[.agg #[.int .i64 X.cap,.int .i64 X.op,.int .i64 X.ac,.slice X.A X.n X.c],.slice none 0 0] w fun e w'=>∃(B:Option Addr) (q d:Nat) (mp:List Ext.Ex),e= .returned (.tuple #[.slice B q d,.int .i64 0])∧Hid (RowL w' B q d mp∧PartOk n L (List.range n) mp∧q≤20000)∧Below w.heap.size w w':=by
 have hD:=dev_of hl hn hX hp hok
 have hXn:X.n=n:=by rw[←hX.plen,hp];exact zsOf_len n L
 refine(map_all hD (by rw[hXn];exact good_of hl hn) (by rw[hXn,trAll_len hl];have:=hl.few;omega)).mono ?_
 rw[hXn]
 rintro e w' ⟨mp,hof,⟨B,q,d,rfl,hO⟩,hb⟩
 have hM:=part_ok hl hn hm (fun _ h=>h) (by rw[trAll_len hl];exact Nat.le_refl _) hof
 have hq:q=mp.length:=hO.2.symm
 exact⟨B,q,d,mp,rfl,⟨OwnsL.row hO (by have:=hM.few;omega),hM,by have:=hM.few;omega⟩,hb⟩
theorem part_run (hX:DevAt w X) (hp:X.p=dvOf n L) (hok:okD (dvOf n L)=true) (hn:n≤4) (hl:LgOk n m L) (hm:m≤40) {zs:List Nat} {ZA:Option Addr} {zc k:Nat} (hk:k=zs.length) (hz:Row ci w ZA k zc (zs.map fun(z:Nat)=>(z:Int))) (hzr:zs.Pairwise (· < ·)) (h0:0<k) (h1:k≤64) (hzn:∀z∈zs,z<n)
  (hs:∀x∈trAll (fsOf n L) zs,x∈trAll (fsOf n L) (List.range n)) (hlen:(trAll (fsOf n L) zs).length≤L.length):
  Calls Tryz.prog 10 #[.agg #[.int .i64 X.cap,.int .i64 X.op,.int .i64 X.ac,.slice X.A X.n X.c],.slice ZA k zc] w fun e w'=>∃(B:Option Addr) (q d:Nat) (mp:List Ext.Ex),e= .returned (.tuple #[.slice B q d,.int .i64 0])∧Hid (RowL w' B q d mp∧PartOk n L zs mp∧q≤20000)∧Below w.heap.size w w':=by
 have hD:=dev_of hl hn hX hp hok
 have hXn:X.n=n:=by rw[←hX.plen,hp];exact zsOf_len n L
 refine(map_zones hD hk hz hzr h0 h1 (by rw[hXn];exact hzn) (fun x hx=>good_of hl hn x (hs x hx)) (by have:=hl.few;omega)).mono ?_
 rintro e w' ⟨mp,hof,⟨B,q,d,rfl,hO⟩,hb⟩
 have hM:=part_ok hl hn hm hs hlen hof
 have hq:q=mp.length:=hO.2.symm
 exact⟨B,q,d,mp,rfl,⟨OwnsL.row hO (by have:=hM.few;omega),hM,by have:=hM.few;omega⟩,hb⟩
end
def hiZ (k b:Nat):List Nat:=(List.range b).map (k+ ·)
def hiI (k b:Nat):List Int:=(hiZ k b).map fun(z:Nat)=>(z:Int)
theorem hiI_succ (k b:Nat):hiI k (b+1)=hiI k b++ [((k+b:Nat):Int)]:=by unfold hiI hiZ;rw[List.range_succ,List.map_append,List.map_append];rfl
theorem hiZ_len (k b:Nat):(hiZ k b).length=b:=by simp[hiZ]
theorem hiZ_rise (k b:Nat):(hiZ k b).Pairwise (· < ·):=by
 unfold hiZ
 rw[List.pairwise_map]
 exact List.pairwise_lt_range.imp fun h=>by omega
theorem hiZ_lt {k b z:Nat} (h:z∈hiZ k b):z<k+b:=by
 obtain⟨i,hi,rfl⟩:=List.mem_map.1 h
 have:=List.mem_range.1 hi
 omega
theorem range_parts (k b:Nat):List.range (k+b)=List.range k++hiZ k b:=List.range_add ..
end Rp
end
section
open Go.RowKit Mem Box Zns
namespace Rp
open Seg (Hdr Rc Rv fits nums hnums nn frame headX recX frames check)
open Pk (zoneOf placeR flen)
open Zon (Zn Zv B8 nilZ)
open Vm (Offd)
theorem open_of {M:Int} {D:List B8} (h0:0<D.length) (hM:(D.length:Int)<M):Zon.openB (zoneOf M 0 D)=true:=by
 rw[Pk.open_zone,beq_eq_false_iff_ne.2 (by omega:(D.length:Int)≠0),beq_eq_false_iff_ne.2 (by omega:(D.length:Int)≠M)];rfl
section
variable {M op ac:Int} {zs:List Zn} {z:Nat} {D b:List B8} {keep:Nat}
theorem tearZ (h1:1≤M) (h2:M≤65536) (hok:okD ⟨M,op,ac,zs⟩=true) (hz:zs[z]? =some (zoneOf M 0 D)) (h0:0<D.length) (hM:(D.length:Int)<M) (hb:0<b.length) (hk:keep≤b.length):
  doP ⟨M,op,ac,zs⟩ ⟨8,(z:Int),0,0,(keep:Int),b⟩=(if(D.length:Int)+(b.length:Int)≤M then(⟨M,op,ac,zs.set z (zoneOf M 0 (D++b.take keep))⟩,⟨0,0,[]⟩) else(⟨M,op,ac,zs⟩,⟨40,0,[]⟩)):=by
 have ha:atI zs z=zoneOf M 0 D:=by unfold atI;rw[List.getD_eq_getElem?_getD,hz];rfl
 have hzl:z<zs.length:=(List.getElem?_eq_some_iff.1 hz).1
 have hoz:Zon.okB (zoneOf M 0 D) M=true:=by rw[Zon.ok_iff h1 h2 (Int.le_refl 0)];exact Pk.mayB_zone h1 (by omega)
 have hst:((zoneOf M 0 D).st==4)=false:=by
  unfold zoneOf
  have hm:((D.length:Int)==M)=false:=beq_eq_false_iff_ne.2 (by omega)
  dsimp only
  rw[hm]
  rcases((D.length:Int)==0)<;>rfl
 have hop:=open_of h0 hM
 have hcl:toCl op ac zs (zoneOf M 0 D)=(-1,0):=by
  unfold toCl
  rw[hop];rfl
 have hs:stepP M op ac zs ⟨8,(z:Int),0,0,(keep:Int),b⟩=tearP M op ac zs z ⟨8,(z:Int),0,0,(keep:Int),b⟩:=by
  unfold stepP
  dsimp only
  rw[Int.toNat_natCast,ha,decide_eq_false (by omega:¬(z:Int)<0),decide_eq_false (by omega:¬(zs.length:Int)≤(z:Int)),show(!knownB 8||(false||false))=false from rfl,show(!((8:Int)==7)&& !((0:Int)==(zoneOf M 0 D).fc))=false from rfl]
  rfl
 have hd:doP ⟨M,op,ac,zs⟩ ⟨8,(z:Int),0,0,(keep:Int),b⟩=(⟨M,op,ac,(tearP M op ac zs z ⟨8,(z:Int),0,0,(keep:Int),b⟩).1⟩,(tearP M op ac zs z ⟨8,(z:Int),0,0,(keep:Int),b⟩).2):=by
  unfold doP
  rw[hok,←hs];rfl
 rw[hd]
 by_cases hD:(D.length:Int)+(b.length:Int)≤M
 ·have he:Zon.appErr (zoneOf M 0 D) M b.length=0:=by
    unfold Zon.appErr
    rw[hoz,hst,beq_eq_false_iff_ne.2 (by omega:b.length≠0),decide_eq_false (show ¬M<(zoneOf M 0 D).len+(b.length:Int) by show ¬M<(D.length:Int)+(b.length:Int);omega)]
    rfl
  have ht:Zon.tornErr (zoneOf M 0 D) M b (keep:Int)=0:=by
   unfold Zon.tornErr
   rw[he,decide_eq_false (by omega:¬(keep:Int)<0),decide_eq_false (by omega:¬(b.length:Int)<(keep:Int))];rfl
  rw[if_pos hD]
  have:tearP M op ac zs z ⟨8,(z:Int),0,0,(keep:Int),b⟩=(zs.set z (zoneOf M 0 (D++b.take keep)),⟨0,0,[]⟩):=by
   unfold tearP
   dsimp only
   rw[ha,he,hcl,ht]
   by_cases h:keep=0
   ·subst h
    have:zs.set z (zoneOf M 0 D)=zs:=by
     have e:zs[z]=zoneOf M 0 D:=(List.getElem?_eq_some_iff.1 hz).2
     rw[←e,List.set_getElem_self]
    rw[List.take_zero,List.append_nil,this];rfl
   ·have hl:0<(b.take keep).length:=by rw[List.length_take];omega
    have hT:Zon.tornZ (zoneOf M 0 D) M b (keep:Int)=zoneOf M 0 (D++b.take keep):=by
     unfold Zon.tornZ
     rw[ht,beq_eq_false_iff_ne.2 (by omega:(keep:Int)≠0),Int.toNat_natCast,←Pk.appZ_dev hl];rfl
    have hp:putO op ac zs z (zoneOf M 0 (D++b.take keep))=(zs.set z (zoneOf M 0 (D++b.take keep)),0):=by
     unfold putO
     rw[ha,hcl];rfl
    rw[hT,hp,beq_eq_false_iff_ne.2 (by omega:(keep:Int)≠0)];rfl
  rw[this]
 ·have he:Zon.appErr (zoneOf M 0 D) M b.length=40:=by
    unfold Zon.appErr
    rw[hoz,hst,beq_eq_false_iff_ne.2 (by omega:b.length≠0),decide_eq_true (show M<(zoneOf M 0 D).len+(b.length:Int) by show M<(D.length:Int)+(b.length:Int);omega)]
    rfl
  rw[if_neg hD]
  have:tearP M op ac zs z ⟨8,(z:Int),0,0,(keep:Int),b⟩=(zs,⟨40,0,[]⟩):=by
   unfold tearP
   dsimp only
   rw[ha,he];rfl
  rw[this]
theorem tear_ok (h1:1≤M) (h2:M≤65536) (hok:okD ⟨M,op,ac,zs⟩=true) (hz:zs[z]? =some (zoneOf M 0 D)) (h0:0<D.length) (hM:(D.length:Int)<M) (hk:keep≤b.length) (hD:(D.length:Int)+(b.length:Int)≤M):okD ⟨M,op,ac,zs.set z (zoneOf M 0 (D++b.take keep))⟩=true:=by
 have hzl:z<zs.length:=(List.getElem?_eq_some_iff.1 hz).1
 by_cases h:keep=0
 ·subst h
  have:zs.set z (zoneOf M 0 D)=zs:=by
   have e:zs[z]=zoneOf M 0 D:=(List.getElem?_eq_some_iff.1 hz).2
   rw[←e,List.set_getElem_self]
  rw[List.take_zero,List.append_nil,this]
  exact hok
 ·have hl:(b.take keep).length=keep:=by rw[List.length_take];omega
  exact okD_app h1 h2 hok hz (by omega) (by omega) (.inl (open_of h0 hM))
end
section
variable {n m:Nat} {L:Lg} {z keep:Nat} {r:Rc} {X:Dx} {w:World}
theorem LgOk.big (h:LgOk n m L) (hm:m≤40) (hz:z<n) (hw:WR 1000 r) (hf:(datZ z (rsOf L z++ [r])).length≤4000):LgOk n 1000 (L++ [(z,r)]):=by
 refine⟨fun x hx=> ?_,List.pairwise_append.2 ⟨h.rise,List.pairwise_singleton _ _,fun a ha b hb=> ?_⟩,by rw[List.length_append];have:=h.few;simp;omega,fun i hi=> ?_⟩
 ·rcases List.mem_append.1 hx with q|q
  ·have:=h.at_ x q
   exact⟨this.1,this.2.1,by omega⟩
  ·rw[List.mem_singleton.1 q]
   exact⟨hz,by rw[hw.ver];exact hw,by show r.ver≤_;rw[hw.ver];omega⟩
 ·rw[List.mem_singleton.1 hb]
  have:=(h.at_ a ha).2.2
  have:=hw.ver
  show a.2.ver<r.ver
  omega
 ·rw[rsOf_snoc]
  split
  ·rename_i e;rw[e];exact hf
  ·exact h.room i hi
theorem dat_more {rs:List Rc} (h:rs≠ []):datZ z (rs++ [r])=datZ z rs++frame (recX r):=by
 cases rs with
 |nil=>exact absurd rfl h
 |cons a t=>
  show frame (headX (hz z))++frames (a::t++ [r])=(frame (headX (hz z))++frames (a::t))++frame (recX r)
  rw[Seg.frames_append,List.append_assoc,show frames [r]=frame (recX r) from by unfold frames;simp]
theorem torn_dev (h:LgOk n m L) (hn:n≤4) (hX:DevAt w X) (hzn:z<n) (hr:Seg.good r) (hk:keep<(frame (recX r)).length) (hne:rsOf L z≠ []) (hp:X.p=⟨4000,(n:Int),(n:Int),(zsOf n L).set z (zoneOf 4000 0 (datZ z (rsOf L z)++(frame (recX r)).take keep))⟩) (hok:okD X.p=true):
  Dev w X (fsOf n L)∧(∀k<n,∃v f,X.xs[k]? =some v∧(fsOf n L)[k]? =some f∧(v.z.data.length:Int)=f.used+(if k=z then(keep:Int) else 0)):=by
 have hlen:X.n=n:=by rw[←hX.plen,hp];simp[zsOf]
 have hat:∀(i:Nat) (v:Zv),X.xs[i]? =some v→v.z=if i=z then zoneOf 4000 0 (datZ z (rsOf L z)++(frame (recX r)).take keep) else zoneOf 4000 0 (datZ i (rsOf L i)):=by
  intro i v hv
  have hin:i<n:=by
   have:=(List.getElem?_eq_some_iff.1 hv).1
   have:=hX.row.len
   omega
  have e:=congrArg (fun d:Dv=>d.zs[i]?) hp
  have e1:X.p.zs[i]? =some v.z:=by show(X.xs.map Zv.z)[i]? =_;rw[List.getElem?_map,hv];rfl
  have e2:((zsOf n L).set z (zoneOf 4000 0 (datZ z (rsOf L z)++(frame (recX r)).take keep)))[i]? =some (if i=z then zoneOf 4000 0 (datZ z (rsOf L z)++(frame (recX r)).take keep) else zoneOf 4000 0 (datZ i (rsOf L i))):=by
   rw[List.getElem?_set]
   by_cases q:z=i
   ·subst q
    rw[if_pos rfl,if_pos rfl,if_pos (by rw[zsOf_len];exact hin)]
   ·rw[if_neg q,if_neg (Ne.symm q),zsOf_get L hin]
  exact Option.some.inj (e1.symm.trans (e.trans e2))
 have hdl:(datZ z (rsOf L z)).length=(fdZ z (rsOf L z)).used:=by
  generalize rsOf L z=rs
  cases rs with
  |nil=>rfl
  |cons a t=>show(frame (headX (hz z))++frames (a::t)).length=(frame (headX (hz z))).length+(frames (a::t)).length;rw[List.length_append]
 have hdl2:∀i,(datZ i (rsOf L i)).length=(fdZ i (rsOf L i)).used:=by
  intro i
  generalize rsOf L i=rs
  cases rs with
  |nil=>rfl
  |cons a t=>show(frame (headX (hz i))++frames (a::t)).length=(frame (headX (hz i))).length+(frames (a::t)).length;rw[List.length_append]
 refine⟨⟨hX,hok,fun i v hv=> ?_,by rw[hlen];simp[fsOf]⟩,fun k hkn=> ?_⟩
 ·have hin:i<n:=by
    have:=(List.getElem?_eq_some_iff.1 hv).1
    have:=hX.row.len
    omega
  refine⟨_,fsOf_get L hin,?_⟩
  have hzz:=hat i v hv
  by_cases q:i=z
  ·subst q
   rw[if_pos rfl] at hzz
   have hd:v.z.data=datZ i (rsOf L i)++(frame (recX r)).take keep:=by rw[hzz];rfl
   rw[hd]
   have hg:∀r∈rsOf L i,Seg.good r:=fun r hr=>(h.recs r hr).1.good
   generalize rsOf L i=rs at*
   cases rs with
   |nil=>exact absurd rfl hne
   |cons a t=>
    have hsc:=Seg.scans_frames ((frame (recX r)).take keep) (Seg.one_cut r hr keep hk) (a::t) hg
    show HoldsF ((frame (headX (hz i))++frames (a::t))++(frame (recX r)).take keep) (Fd.seg (hz i) (a::t))
    rw[List.append_assoc]
    exact .seg (hz_fits (by omega)) (hz_nn i) hsc
  ·rw[if_neg q] at hzz
   have hd:v.z.data=datZ i (rsOf L i):=by rw[hzz];rfl
   rw[hd]
   exact holds_z h (by omega)
 ·obtain⟨v,hv⟩:∃v,X.xs[k]? =some v:=⟨_,List.getElem?_eq_getElem (by have:=hX.row.len;omega)⟩
  refine⟨v,_,hv,fsOf_get L hkn,?_⟩
  have hzz:=hat k v hv
  by_cases q:k=z
  ·subst q
   rw[if_pos rfl] at hzz
   rw[hzz,if_pos rfl]
   show((datZ k (rsOf L k)++(frame (recX r)).take keep).length:Int)=_
   rw[List.length_append,List.length_take,hdl]
   omega
  ·rw[if_neg q] at hzz
   rw[hzz,if_neg q]
   show((datZ k (rsOf L k)).length:Int)=_
   rw[hdl2];omega
end
theorem offd_one {l a b:List Ext.Ex} (ha:Offd l a) (hb:Offd l b):a=b:=by
 obtain⟨r,p1,v1,rfl⟩:=ha
 obtain⟨s,p2,v2,rfl⟩:=hb
 have:r=s:=List.Perm.eq_of_pairwise (fun x y hx hy h1 h2=>by unfold Vm.byVer at h1 h2;omega) v1 v2 (p1.trans p2.symm)
 rw[this]
theorem maxV_big {l:List Tr} {V:Int} (h:∀x∈l,x.1.ver≤V) (h0:0≤V) (h1:∃x∈l,x.1.ver=V):maxV l=V:=by
 have key:∀(l:List Tr) (v:Int),v≤l.foldl (fun v x=>max v x.1.ver) v∧(∀x∈l,x.1.ver≤l.foldl (fun v x=>max v x.1.ver) v)∧((∀x∈l,x.1.ver≤V)→v≤V→l.foldl (fun v x=>max v x.1.ver) v≤V):=by
  intro l
  induction l with
  |nil=>intro v;exact⟨Int.le_refl _,by simp,fun _ h=>h⟩
  |cons a t ih=>
   intro v
   rw[List.foldl_cons]
   obtain⟨i1,i2,i3⟩:=ih (max v a.1.ver)
   refine⟨by omega,fun x hx=> ?_,fun hx hv=>i3 (fun x hx'=>hx x (by simp[hx'])) (by have:=hx a (by simp);omega)⟩
   rcases List.mem_cons.1 hx with rfl|q
   ·omega
   ·exact i2 x q
 obtain⟨x,hx,e⟩:=h1
 have h2:=(key l 0).2.1 x hx
 have h3:=(key l 0).2.2 h h0
 unfold maxV
 omega
end Rp
end
section
open Go.RowKit Mem Box Zns
namespace Rp
open Seg (Hdr Rc Rv)
open Zon (Zn Zv B8 cellsZ)
theorem run_used (b:Bool) (x y z:Int) (l a:Value) (u:Int) (w:World) (hl:∃A n c,l= .slice A n c) (ha:∃A n c,a= .slice A n c):(Instr.field 71 (.agg #[.bool b,.int .i64 x,.int .i64 y,.int .i64 z,l,a,.int .i64 u]) 4).run Tryz.prog w= .ok (.int .i64 u) w:=by
 obtain⟨A,n,c,rfl⟩:=hl
 obtain⟨A2,n2,c2,rfl⟩:=ha
 have q:=Tryz.underlying71
 have q4:=Tryz.underlying3
 have a4:=Tryz.isAgg3
 have z0:=Tryz.sizeOf4
 have z1:=Tryz.sizeOf68
 have z2:=Tryz.sizeOf69
 have z3:=Tryz.sizeOf34
 have z4:=Tryz.sizeOf3
 unfold Instr.field
 go_simp
 simp[asAgg]
theorem torn_none {X:Dx} {fs:List Fd} {w:World} (h:Dev w X fs) (hw:∀(k:Nat) (v:Zv) (f:Fd),X.xs[k]? =some v→fs[k]? =some f→f.used=v.z.data.length):
  Calls Tryz.prog 11 #[.agg #[.int .i64 X.cap,.int .i64 X.op,.int .i64 X.ac,.slice X.A X.n X.c]] w fun e w'=>e= .returned (.slice none 0 0)∧Below w.heap.size w w':=by
 have HA:=fun W (hW:Below w.heap.size w W)=>Lib.hid (all_any (h.at_.below hW) h.ok)
 have HD:=Lib.hid h
 have hn:=h.few
 have HW:=Lib.hid hw
 have L1:=Lib.hid ((Below.refl w.heap.size w).alloc (Nat.le_refl _) (.cells #[.int .i64 X.cap,.int .i64 X.op,.int .i64 X.ac,.slice X.A X.n X.c] 26))
 have B1:=Lib.hid (box_new w X)
 clear h hw
 go_enter Tryz.func11,Tryz.ntmps11
 go_upto_region 1 with fail
 generalize w.alloc (.cells #[.int .i64 X.cap,.int .i64 X.op,.int .i64 X.ac,.slice X.A X.n X.c] 26)=w1 at*
 have m0:w1.cell? ⟨w.heap.size,0,none⟩=some (.int .i64 X.cap):=Cells.cell B1.out 0
 have m1:w1.cell? ⟨w.heap.size,1,none⟩=some (.int .i64 X.op):=Cells.cell B1.out 1
 have m2:w1.cell? ⟨w.heap.size,2,none⟩=some (.int .i64 X.ac):=Cells.cell B1.out 2
 have m3:w1.cell? ⟨w.heap.size,3,none⟩=some (.slice X.A X.n X.c):=Cells.cell B1.out 3
 go_wp2_with (go_at_call 32;refine(HA w1 L1.out).out.mono ?_;rintro e w2 ⟨IA,IC,rfl,hO,hb⟩;have L2:=Lib.hid (L1.out.trans (hb.mono L1.out.size));have B2:=Lib.hid (Cells.below B1.out hb);have I2:=Lib.hid (Wire.gave_row hO (by rw[iota_len];omega)).1;clear hb hO)
 clear m0 m1 m2 m3
 go_loopw [3,5,6,10] (fun s _ _ i wr=>∃k:Nat,i= .int .i64 k∧s= .slice none 0 0∧k≤X.n∧Hid (Below w2.heap.size w2 wr)) (fun _ _ _ i _=>X.n-(intOf i).toNat)
 case atStart=>exact⟨0,rfl,rfl,by omega,Below.refl _ _⟩
 case round=>
  obtain⟨k,rfl,rfl,hkn,hH⟩:=hrel
  have LW:=Lib.hid (L2.out.trans (hH.out.mono L2.out.size))
  by_cases hlt:k<X.n
  ·have hk1:(k:Int)<(X.n:Int):=by omega
   have hk0:(0:Int)≤(k:Int):=by omega
   obtain⟨v,f,hv,hf,hhf,hrow,hcap⟩:=HD.out.zone hlt
   have hu:=HW.out k v f hv hf
   obtain⟨bi,oi,eI,ci'⟩:=(I2.out.below hH.out).cell (iota_get hlt)
   subst eI
   have ci2:wr.cell? ⟨bi,oi+k,none⟩=some (.int .i64 (k:Int)):=ci'
   obtain⟨b,o,hA,hb,hc⟩:=HD.out.at_.row.elem hv
   have c0:wr.cell? ⟨b,o+k*3,none⟩=some (.int .i64 v.z.st):=hc wr (LW.out.block b hb) 0 _ rfl
   have c1:wr.cell? ⟨b,o+k*3+1,none⟩=some (.int .i64 v.z.fc):=hc wr (LW.out.block b hb) 1 _ rfl
   have c2:wr.cell? ⟨b,o+k*3+2,none⟩=some (.slice v.D v.z.data.length v.c):=hc wr (LW.out.block b hb) 2 _ rfl
   have m3:wr.cell? ⟨w.heap.size,3,none⟩=some (.slice (some ⟨b,o,none⟩) X.n X.c):=by rw[←hA];exact Cells.cell (Cells.below B2.out hH.out) 3
   have HZ:=fun W (hW:Below w.heap.size w W)=>Lib.hid (zone_any (hrow.below hW) (by omega) hhf)
   have HU:=Lib.hid hu
   have H4:=Lib.hid (hH.out.alloc hH.out.size (.cells #[.int .i64 v.z.st,.int .i64 v.z.fc,.slice v.D v.z.data.length v.c] 46))
   have Z4:Hid (Cells (wr.alloc (.cells #[.int .i64 v.z.st,.int .i64 v.z.fc,.slice v.D v.z.data.length v.c] 46)) wr.heap.size 46 #[.int .i64 v.z.st,.int .i64 v.z.fc,.slice v.D v.z.data.length v.c]):=Cells.new _ _ _
   clear hv hf hhf hrow hcap hA hc hb ci' hu
   go_upto_region 6 with fail
   generalize wr.alloc (.cells #[.int .i64 v.z.st,.int .i64 v.z.fc,.slice v.D v.z.data.length v.c] 46)=w4 at*
   generalize wr.heap.size=zg at*
   clear c0 c1 c2 m3 ci2
   have H5:=Lib.hid H4.out.drew
   have Z5:Hid (Cells w4.drew zg 46 #[.int .i64 v.z.st,.int .i64 v.z.fc,.slice v.D v.z.data.length v.c]):=Z4.out
   have L5:=Lib.hid (L2.out.trans (H5.out.mono L2.out.size))
   have HZ5:=HZ w4.drew L5.out
   have HSW:Hid (∀W,Below w4.drew.heap.size w4.drew W→W.cell? ⟨zg,0,none⟩=some (.int .i64 v.z.st)∧W.cell? ⟨zg,1,none⟩=some (.int .i64 v.z.fc)∧W.cell? ⟨zg,2,none⟩=some (.slice v.D v.z.data.length v.c)):=fun W hW=>⟨Cells.cell (Cells.below Z5.out hW) 0,Cells.cell (Cells.below Z5.out hW) 1,Cells.cell (Cells.below Z5.out hW) 2⟩
   clear HZ H4 Z4
   refine wp_region_held_drew (S:=fun W=>W.cell? ⟨zg,0,none⟩=some (.int .i64 v.z.st)∧W.cell? ⟨zg,1,none⟩=some (.int .i64 v.z.fc)∧W.cell? ⟨zg,2,none⟩=some (.slice v.D v.z.data.length v.c)) (by kernel_rfl) (HSW.out _ (Below.refl _ _)) (fun hHeld=> ?_)
   generalize w4.drew=w5 at*
   refine Reg.tk 0 rfl ?_
   refine Reg.tk 3 rfl ?_
   refine Reg.tk 4 rfl ?_
   refine Reg.tk 5 rfl ?_
   refine Reg.step 1 rfl (by kernel_rfl) (by rfl) (fun K hK=> ?_)
   go_simp
   refine HZ5.out.mono ?_
   rintro e w6 ⟨zs,LA,LC,AA,AC,rfl,-,hb⟩
   have H6:=Lib.hid (H5.out.trans (hb.mono H5.out.size))
   refine hK.out _ _ (HSW.out _ hb) (fun hHeld2=> ?_)
   clear hK K hHeld hb HZ5
   have hfd:=fun W=>run_used f.hd f.h.host f.h.epoch f.h.seq (.slice LA f.rs.length LC) (.slice AA f.rs.length AC) (v.z.data.length:Int) W ⟨_,_,_,rfl⟩ ⟨_,_,_,rfl⟩
   (try simp only[Act.put,List.setIfInBounds_toArray,List.set_cons_zero,List.set_cons_succ])
   have hue:(f.used:Int)=(v.z.data.length:Int):=by rw[HU.out]
   generalize v.z.data.length=dn at*
   generalize(f.used:Int)=fu at*
   subst hue
   refine Reg.tk 2 rfl ?_
   refine Reg.tk 6 rfl ?_
   refine wpAnyH_done (by kernel_rfl) ?_ _
   clear hHeld2
   go_wp2_with fail
   go_roundw
   case rel=>exact⟨k+1,by go_num,rfl,by omega,H6.out⟩
   case measure=>simp[intOf];omega
  ·have hkk:k=X.n:=by omega
   go_wp2_with fail
   go_ret
   exact⟨rfl,LW.out⟩
end Rp
end
section
open Go.RowKit Mem Box Zns
namespace Rp
open Seg (Hdr Rc Rv)
open Zon (Zn Zv B8 cellsZ)
def tornL (p:Nat→Bool) (k:Nat):List Int:=((List.range k).filter p).map fun(z:Nat)=>(z:Int)
theorem tornL_succ (p:Nat→Bool) (k:Nat):tornL p (k+1)=tornL p k++(bif p k then [(k:Int)] else []):=by
 unfold tornL
 rw[List.range_succ,List.filter_append,List.map_append]
 congr 1
 cases h:p k<;>simp[h]
theorem torn_any {X:Dx} {fs:List Fd} {w:World} (h:Dev w X fs) (p:Nat→Bool) (hw:∀(k:Nat) (v:Zv) (f:Fd),X.xs[k]? =some v→fs[k]? =some f→decide ((f.used:Int)<(v.z.data.length:Int))=p k):
  Calls Tryz.prog 11 #[.agg #[.int .i64 X.cap,.int .i64 X.op,.int .i64 X.ac,.slice X.A X.n X.c]] w fun e w'=>∃A c,e= .returned (.slice A (tornL p X.n).length c)∧Below w.heap.size w w':=by
 have HA:=fun W (hW:Below w.heap.size w W)=>Lib.hid (all_any (h.at_.below hW) h.ok)
 have HD:=Lib.hid h
 have hn:=h.few
 have HW:=Lib.hid hw
 have L1:=Lib.hid ((Below.refl w.heap.size w).alloc (Nat.le_refl _) (.cells #[.int .i64 X.cap,.int .i64 X.op,.int .i64 X.ac,.slice X.A X.n X.c] 26))
 have B1:=Lib.hid (box_new w X)
 clear h hw
 go_enter Tryz.func11,Tryz.ntmps11
 go_upto_region 1 with fail
 generalize w.alloc (.cells #[.int .i64 X.cap,.int .i64 X.op,.int .i64 X.ac,.slice X.A X.n X.c] 26)=w1 at*
 have m0:w1.cell? ⟨w.heap.size,0,none⟩=some (.int .i64 X.cap):=Cells.cell B1.out 0
 have m1:w1.cell? ⟨w.heap.size,1,none⟩=some (.int .i64 X.op):=Cells.cell B1.out 1
 have m2:w1.cell? ⟨w.heap.size,2,none⟩=some (.int .i64 X.ac):=Cells.cell B1.out 2
 have m3:w1.cell? ⟨w.heap.size,3,none⟩=some (.slice X.A X.n X.c):=Cells.cell B1.out 3
 go_wp2_with (go_at_call 32;refine(HA w1 L1.out).out.mono ?_;rintro e w2 ⟨IA,IC,rfl,hO,hb⟩;have L2:=Lib.hid (L1.out.trans (hb.mono L1.out.size));have B2:=Lib.hid (Cells.below B1.out hb);have I2:=Lib.hid (Wire.gave_row hO (by rw[iota_len];omega)).1;clear hb hO)
 clear m0 m1 m2 m3
 go_loopw [3,5,6,10] (fun s _ _ i wr=>∃(k:Nat) (S:Option Addr) (m d:Nat),i= .int .i64 k∧s= .slice S m d∧k≤X.n∧m≤k∧Hid (Below w2.heap.size w2 wr)∧Hid (OwnI w2.heap.size wr S m d (tornL p k))) (fun _ _ _ i _=>X.n-(intOf i).toNat)
 case atStart=>exact⟨0,none,0,0,rfl,rfl,by omega,by omega,Below.refl _ _,Mem.Owns.nil _ _ _ _⟩
 case round=>
  obtain⟨k,S,m,d,rfl,rfl,hkn,hmk,hH,hO⟩:=hrel
  have LW:=Lib.hid (L2.out.trans (hH.out.mono L2.out.size))
  by_cases hlt:k<X.n
  ·have hk1:(k:Int)<(X.n:Int):=by omega
   have hk0:(0:Int)≤(k:Int):=by omega
   obtain⟨v,f,hv,hf,hhf,hrow,hcap⟩:=HD.out.zone hlt
   have hu:=HW.out k v f hv hf
   obtain⟨bi,oi,eI,ci'⟩:=(I2.out.below hH.out).cell (iota_get hlt)
   subst eI
   have ci2:wr.cell? ⟨bi,oi+k,none⟩=some (.int .i64 (k:Int)):=ci'
   obtain⟨b,o,hA,hb,hc⟩:=HD.out.at_.row.elem hv
   have c0:wr.cell? ⟨b,o+k*3,none⟩=some (.int .i64 v.z.st):=hc wr (LW.out.block b hb) 0 _ rfl
   have c1:wr.cell? ⟨b,o+k*3+1,none⟩=some (.int .i64 v.z.fc):=hc wr (LW.out.block b hb) 1 _ rfl
   have c2:wr.cell? ⟨b,o+k*3+2,none⟩=some (.slice v.D v.z.data.length v.c):=hc wr (LW.out.block b hb) 2 _ rfl
   have m3:wr.cell? ⟨w.heap.size,3,none⟩=some (.slice (some ⟨b,o,none⟩) X.n X.c):=by rw[←hA];exact Cells.cell (Cells.below B2.out hH.out) 3
   have HZ:=fun W (hW:Below w.heap.size w W)=>Lib.hid (zone_any (hrow.below hW) (by omega) hhf)
   have HU:=Lib.hid hu
   have H4:=Lib.hid (hH.out.alloc hH.out.size (.cells #[.int .i64 v.z.st,.int .i64 v.z.fc,.slice v.D v.z.data.length v.c] 46))
   have HZ4:Hid (Below wr.heap.size wr (wr.alloc (.cells #[.int .i64 v.z.st,.int .i64 v.z.fc,.slice v.D v.z.data.length v.c] 46))):=(Below.refl _ wr).alloc (Nat.le_refl _) _
   have Z4:Hid (Cells (wr.alloc (.cells #[.int .i64 v.z.st,.int .i64 v.z.fc,.slice v.D v.z.data.length v.c] 46)) wr.heap.size 46 #[.int .i64 v.z.st,.int .i64 v.z.fc,.slice v.D v.z.data.length v.c]):=Cells.new _ _ _
   clear hv hf hhf hrow hcap hA hc hb ci' hu
   go_upto_region 6 with fail
   generalize wr.alloc (.cells #[.int .i64 v.z.st,.int .i64 v.z.fc,.slice v.D v.z.data.length v.c] 46)=w4 at*
   generalize hzg:wr.heap.size=zg at*
   have HZG2:=Lib.hid hzg
   clear hzg
   clear c0 c1 c2 m3 ci2
   have H5:=Lib.hid H4.out.drew
   have HZB:Hid (Below wr.heap.size wr w4.drew):=by rw[HZG2.out];exact HZ4.out.drew
   have Z5:Hid (Cells w4.drew zg 46 #[.int .i64 v.z.st,.int .i64 v.z.fc,.slice v.D v.z.data.length v.c]):=Z4.out
   have L5:=Lib.hid (L2.out.trans (H5.out.mono L2.out.size))
   have HZ5:=HZ w4.drew L5.out
   have HSW:Hid (∀W,Below w4.drew.heap.size w4.drew W→W.cell? ⟨zg,0,none⟩=some (.int .i64 v.z.st)∧W.cell? ⟨zg,1,none⟩=some (.int .i64 v.z.fc)∧W.cell? ⟨zg,2,none⟩=some (.slice v.D v.z.data.length v.c)):=fun W hW=>⟨Cells.cell (Cells.below Z5.out hW) 0,Cells.cell (Cells.below Z5.out hW) 1,Cells.cell (Cells.below Z5.out hW) 2⟩
   clear HZ H4 Z4
   refine wp_region_held_drew (S:=fun W=>W.cell? ⟨zg,0,none⟩=some (.int .i64 v.z.st)∧W.cell? ⟨zg,1,none⟩=some (.int .i64 v.z.fc)∧W.cell? ⟨zg,2,none⟩=some (.slice v.D v.z.data.length v.c)) (by kernel_rfl) (HSW.out _ (Below.refl _ _)) (fun hHeld=> ?_)
   generalize w4.drew=w5 at*
   refine Reg.tk 0 rfl ?_
   refine Reg.tk 3 rfl ?_
   refine Reg.tk 4 rfl ?_
   refine Reg.tk 5 rfl ?_
   refine Reg.step 1 rfl (by kernel_rfl) (by rfl) (fun K hK=> ?_)
   go_simp
   refine HZ5.out.mono ?_
   rintro e w6 ⟨zs,LA,LC,AA,AC,rfl,-,hb⟩
   have H6:=Lib.hid (H5.out.trans (hb.mono H5.out.size))
   have HB6:=Lib.hid hb
   refine hK.out _ _ (HSW.out _ hb) (fun hHeld2=> ?_)
   clear hK K hHeld hb HZ5
   have hfd:=fun W=>run_used f.hd f.h.host f.h.epoch f.h.seq (.slice LA f.rs.length LC) (.slice AA f.rs.length AC) (f.used:Int) W ⟨_,_,_,rfl⟩ ⟨_,_,_,rfl⟩
   (try simp only[Act.put,List.setIfInBounds_toArray,List.set_cons_zero,List.set_cons_succ])
   have hue:Hid (decide ((f.used:Int)<(v.z.data.length:Int))=p k):=HU.out
   have O6:=Lib.hid (Mem.Owns.below (Mem.Owns.below hO.out (HZB.out)) HB6.out)
   clear hO
   generalize v.z.data.length=dn at*
   generalize(f.used:Int)=fu at*
   rcases e:p k
   ·have hd:=hue.out
    rw[e] at hd
    refine Reg.tk 2 rfl ?_
    refine Reg.tk 6 rfl ?_
    refine wpAnyH_done (by kernel_rfl) ?_ _
    clear hHeld2
    go_wp2_with fail
    go_roundw
    case rel=>exact⟨k+1,S,m,d,by go_num,rfl,by omega,by omega,H6.out,by rw[tornL_succ,e,cond_false,List.append_nil];exact O6.out⟩
    case measure=>simp[intOf];omega
   ·have hd:=hue.out
    rw[e] at hd
    have A6:Hid (Below w2.heap.size w2 (w6.alloc (.cells #[.int .i64 (k:Int)] 3))):=H6.out.alloc H6.out.size _
    refine Reg.tk 2 rfl ?_
    refine Reg.tk 6 rfl ?_
    refine wpAnyH_done (by kernel_rfl) ?_ _
    clear hHeld2
    go_wp2_with (at_builtin
                 refine wpList_append_row ci_one Tryz.underlying34 info_int rfl rfl (.tmp 26) (.tmp 28) rfl rfl w2.heap.size (.slice S m d) m _ rfl (Mem.Owns.alloc O6.out _) _ 1 1 [(k:Int)] rfl (row_int w6 k) (by omega) (by omega) A6.out.size ?_
                 intro A' c' w' h1 h2
                 have O7:=Lib.hid h1
                 have A7:=Lib.hid (A6.out.trans h2)
                 clear h1 h2)
    go_roundw
    case rel=>exact⟨k+1,A',m+1,c',by go_num,rfl,by omega,by omega,A7.out,by rw[tornL_succ,e,cond_true];exact O7.out⟩
    case measure=>simp[intOf];omega
  ·have hkk:k=X.n:=by omega
   have hml:m=(tornL p X.n).length:=by rw[←hkk];exact hO.out.len.symm
   subst hml
   go_wp2_with fail
   go_ret
   exact⟨S,d,rfl,LW.out⟩
end Rp
end
section
open Go.ChangeShapes Go.WideShapes Go.ChangeAt Go.RowKit Mem Box
namespace Args
open Rp
variable {H:Type} {enc:TypeId × Value→H} {W:World}
theorem raw_write {fuel:Nat} {cs:List Value} {x:DataW H × List MemPlace} (hf:DataW.trod enc Tryz.prog W 0 (fun _=>true) true fuel 44 cs=some x) (hl:cs.length=5):
  ∃v:Wr,cs=cellsW v∧True:=by
 have hu:=Tryz.underlying44
 match cs,hl with
 | [c0,c1,c2,c3,c4],_=>
   obtain⟨xs,n,_,hx,_,hlen,hg⟩:=DataW.trod_struct hu hf
   have hxl:xs.length=5:=hlen
   match xs,hxl with
   | [y0,y1,y2,y3,y4],_=>
     have o3:Tryz.prog.cellsOf 3=1:=by kernel_rfl
     have o4:Tryz.prog.cellsOf 4=1:=by kernel_rfl
     have o5:Tryz.prog.cellsOf 5=1:=by kernel_rfl
     have g0:=hg 0 _ rfl
     have g1:=hg 1 _ rfl
     have g2:=hg 2 _ rfl
     have g3:=hg 3 _ rfl
     have g4:=hg 4 _ rfl
     simp[o3,o4,o5] at g0 g1 g2 g3 g4
     obtain⟨z,hz1,-,wz⟩:=DataW.trod_int Tryz.underlying3 g0
     obtain⟨l,hl1,-,wl⟩:=DataW.trod_int Tryz.underlying3 g1
     obtain⟨k,hk1,-,wk⟩:=DataW.trod_int Tryz.underlying3 g2
     obtain⟨b,hb1,-,wb⟩:=DataW.trod_int Tryz.underlying5 g3
     obtain⟨t,ht1,-⟩:=DataW.trod_bool Tryz.underlying4 g4
     simp only[List.cons.injEq,and_true] at hz1 hl1 hk1 hb1 ht1
     subst hz1 hl1 hk1 hb1 ht1
     have hb2:0≤b∧b≤255:=by
      simp[Lit.wf,IntKind.min,IntKind.max,IntKind.signed,IntKind.bits] at wb
      omega
     refine⟨⟨z,l,k,BitVec.ofNat 8 b.toNat,t⟩,?_,trivial⟩
     have e:cb (BitVec.ofNat 8 b.toNat)= .int .u8 b:=by
      show Value.int .u8 (((BitVec.ofNat 8 b.toNat).toNat:Nat):Int)= .int .u8 b
      congr 1
      rw[BitVec.toNat_ofNat]
      omega
     show _= [_,_,_,cb (BitVec.ofNat 8 b.toNat),_]
     rw[e]
theorem open_writes {v:Value} {d:DataW H} {p:List MemPlace} {base:Nat} (hok:Value.okWide Tryz.prog W .any base 22 v) (h:DataW.Trod enc Tryz.prog W 0 (fun _=>true) true 22 v d p)
  (hs:∀q∈d.weights Tryz.prog 22,q≤reachBytes):∃A n c xs,v= .slice A n c∧RowS cellsW 5 W A n c xs:=by
 obtain⟨A,n,c,xs,h1,h2,-⟩:=open_rowS (cells:=cellsW) (k:=5) (bytes:=32) (p:=fun _=>True) Tryz.underlying22 (by kernel_rfl) (by kernel_rfl) (by omega) (by omega) (fun _ _ _ hf hl _=>raw_write hf hl) hok h hs
 exact⟨A,n,c,xs,h1,h2⟩
end Args
end
section
open Go.RowKit Mem Box Zns
namespace Rp
open Seg (Hdr Rc Rv fits nums hnums nn frame headX recX frames check recB)
open Pk (zoneOf placeR flen)
open Zon (Zn Zv B8 nilZ)
open Vm (Offd)
open Ext (RowL OwnsL GaveE MayX)
theorem rec_call {r:Rc} {D:Option Addr} {n c:Nat} {w:World} (hw:WR 1000 r) (h:Row cb w D n c r.data):
  Calls Tryz.prog 15 #[.agg #[.int .i64 r.kind,.int .i64 r.lba,.int .i64 r.n,.int .i64 r.ver,.int .i64 r.zone,.int .i64 r.off,.slice D n c]] w fun e w'=>∃(B:Option Addr) (k d:Nat),e= .returned (.tuple #[.slice B k d,.int .i64 0])∧Hid (k=(frame (recX r)).length∧Row cb w' B k d (frame (recX r)))∧Below w.heap.size w w':=by
 have hrb:recB r=(frame (recX r),0):=by unfold recB;rw[if_pos hw.check]
 have HRC:=Seg.rec_outer hw.fits h
 rw[hrb] at HRC
 refine HRC.mono ?_
 rintro e w' ⟨X,bk,d,rfl,hO,hb⟩
 have hl:bk=(frame (recX r)).length:=hO.len.symm
 have hx:(frame (recX r)).length≤40100:=Pk.flen_le hw.fits hw.check
 exact⟨X,bk,d,rfl,⟨hl,(Wire.gave_row hO (show(frame (recX r)).length≤_ by omega)).1⟩,hb⟩
section
variable {n m z keep:Nat} {L:Lg} {r:Rc} {X:Dx} {w:World}
theorem tear_call (hX:DevAt w X) (hp:X.p=dvOf n L) (hok:okD (dvOf n L)=true) (hn:n≤4) (hzn:z<n) (h0:0<(datZ z (rsOf L z)).length) (hM:(datZ z (rsOf L z)).length<4000) {b:List B8} {B:Option Addr} {k d:Nat} (hk:k=b.length) (hB:Row cb w B k d b) (hb:0<b.length) (hkp:keep≤b.length):
  Calls Tryz.prog 16 #[.agg #[.int .i64 X.cap,.int .i64 X.op,.int .i64 X.ac,.slice X.A X.n X.c],.agg #[.int .i64 8,.int .i64 (z:Int),.int .i64 0,.int .i64 0,.int .i64 (keep:Int),.slice B k d]] w fun e w'=>∃(Y:Dx) (C:Option Addr) (q:Nat),e= .returned (.tuple #[.agg #[.int .i64 Y.cap,.int .i64 Y.op,.int .i64 Y.ac,.slice Y.A Y.n Y.c],.agg #[.int .i64 (if(datZ z (rsOf L z)).length+b.length≤4000 then 0 else 40),.int .i64 0,.slice C 0 q]])∧Hid (DevAt w' Y∧((datZ z (rsOf L z)).length+b.length≤4000→Y.p=⟨4000,(n:Int),(n:Int),(zsOf n L).set z (zoneOf 4000 0 (datZ z (rsOf L z)++b.take keep))⟩∧okD Y.p=true))∧Below w.heap.size w w':=by
 subst hk
 have hXn:X.n≤1000:=by rw[←hX.plen,hp];show(zsOf n L).length≤1000;rw[zsOf_len];omega
 have hokX:okD X.p=true:=by rw[hp];exact hok
 have ht:=tearZ (b:=b) (keep:=keep) (M:=4000) (by omega) (by omega) hok (zsOf_get L hzn) h0 (by omega) hb hkp
 have hko:=fun q=>tear_ok (b:=b) (keep:=keep) (M:=4000) (by omega) (by omega) hok (zsOf_get L hzn) h0 (by omega) hkp q
 have hcm:CmdAt w ⟨⟨8,(z:Int),0,0,(keep:Int),b⟩,B,d⟩:=⟨hB,by show(0:Int)≤_;omega⟩
 by_cases hr:(datZ z (rsOf L z)).length+b.length≤4000
 ·rw[if_pos (by omega)] at ht
  rw[if_pos hr]
  have hdo:doP X.p ⟨8,(z:Int),0,0,(keep:Int),b⟩=(⟨4000,(n:Int),(n:Int),(zsOf n L).set z (zoneOf 4000 0 (datZ z (rsOf L z)++b.take keep))⟩,⟨0,0,[]⟩):=by rw[hp];exact ht
  refine(Pk.do_2b (does_tear rfl) hX hXn hcm hokX hdo).mono ?_
  rintro e w' ⟨Y,C,q,rfl,hY,hYp,-,-,-,hb'⟩
  exact⟨Y,C,q,rfl,⟨hY,fun _=>⟨hYp,by rw[hYp];exact hko (by omega)⟩⟩,hb'⟩
 ·rw[if_neg (by omega)] at ht
  rw[if_neg hr]
  have hdo:doP X.p ⟨8,(z:Int),0,0,(keep:Int),b⟩=(dvOf n L,⟨40,0,[]⟩):=by rw[hp];exact ht
  refine(Pk.do_2b (does_tear rfl) hX hXn hcm hokX hdo).mono ?_
  rintro e w' ⟨Y,C,q,rfl,hY,hYp,-,-,-,hb'⟩
  exact⟨Y,C,q,rfl,⟨hY,fun h=>absurd h hr⟩,hb'⟩
theorem dev_map {fs:List Fd} (h:Dev w X fs) (hXn:X.n=n) (hg:AllGood fs (List.range n)) (hl:(trAll fs (List.range n)).length≤40):
  Calls Tryz.prog 10 #[.agg #[.int .i64 X.cap,.int .i64 X.op,.int .i64 X.ac,.slice X.A X.n X.c],.slice none 0 0] w fun e w'=>∃(B:Option Addr) (q d:Nat) (mp:List Ext.Ex),e= .returned (.tuple #[.slice B q d,.int .i64 0])∧Hid (RowL w' B q d mp∧Offd ((trAll fs (List.range n)).map exT) mp)∧Below w.heap.size w w':=by
 subst hXn
 refine(map_all h hg (by omega)).mono ?_
 rintro e w' ⟨mp,hof,⟨B,q,d,rfl,hO⟩,hb⟩
 have hlen:=offd_len (fun x hx=>by obtain⟨t,ht,rfl⟩:=List.mem_map.1 hx;exact(hg t ht).may) hof (by rw[List.length_map];exact hl)
 have hq:q=mp.length:=hO.2.symm
 exact⟨B,q,d,mp,rfl,⟨OwnsL.row hO (by omega),hof⟩,hb⟩
theorem dev_newest {fs:List Fd} (h:Dev w X fs) (hXn:X.n=n) (hg:AllGood fs (List.range n)):
  Calls Tryz.prog 17 #[.agg #[.int .i64 X.cap,.int .i64 X.op,.int .i64 X.ac,.slice X.A X.n X.c]] w fun e w'=>e= .returned (.int .i64 (maxV (trAll fs (List.range n))))∧Below w.heap.size w w':=by
 subst hXn
 exact newest_any h hg
theorem newest_big (h:LgOk n 1000 (L++ [(z,r)])) (hr:r.ver=1000):maxV (trAll (fsOf n (L++ [(z,r)])) (List.range n))=1000:=by
 refine maxV_big (fun x hx=> ?_) (by omega) ?_
 ·obtain⟨z',-,-,-,h3,-⟩:=h.tr hx
  have hm:(x.2.1.toNat,x.1)∈L++ [(z,r)]:=(mem_tr h).2 ⟨x,hx,by show x.2.1=((x.2.1.toNat:Nat):Int);omega,rfl⟩
  exact(h.at_ _ hm).2.2
 ·obtain⟨y,hy,-,h2⟩:=(mem_tr h).1 (show(z,r)∈L++ [(z,r)] by simp)
  exact⟨y,hy,by rw[h2];exact hr⟩
end
theorem used_len (z:Nat) (rs:List Rc):(fdZ z rs).used=(datZ z rs).length:=by
 cases rs with
 |nil=>rfl
 |cons a t=>show(frame (headX (hz z))).length+(Seg.frames (a::t)).length=(frame (headX (hz z))++Seg.frames (a::t)).length;rw[List.length_append]
theorem torn_one {n z:Nat} (h:z<n):0<(tornL (fun k=>k==z) n).length:=by
 have:(z:Int)∈tornL (fun k=>k==z) n:=by
  unfold tornL
  refine List.mem_map.2 ⟨z,List.mem_filter.2 ⟨List.mem_range.2 h,by simp⟩,rfl⟩
 exact List.length_pos_of_mem this
end Rp
namespace Args
open Rp Go.ChangeShapes Go.WideShapes Go.ChangeAt
variable {H:Type} {enc:TypeId × Value→H} {W:World}
theorem open_write {v:Value} {d:DataW H} {p:List MemPlace} {base:Nat} (hok:Value.okWide Tryz.prog W .any base 44 v) (h:DataW.Trod enc Tryz.prog W 0 (fun _=>true) true 44 v d p):
  ∃x:Wr,v= .agg #[.int .i64 x.zone,.int .i64 x.lba,.int .i64 x.n,cb x.by_,.bool x.trim]:=by
 have hu:=Tryz.underlying44
 obtain⟨cs,rfl,hsz⟩:=okWide_struct hu hok
 have hC:Tryz.prog.cellsOf 44=5:=by kernel_rfl
 obtain⟨l⟩:=cs
 have hl5:l.length=5:=by simpa [hC] using hsz
 obtain⟨fuel,hf⟩:=h
 obtain⟨v,hv,-⟩:=raw_write hf hl5
 have hv:l=cellsW v:=hv
 subst hv
 exact⟨v,rfl⟩
end Args
end
section
open Go.RowKit Mem Box Zns
namespace Rp
open Zon (Zn Zv B8)
open Seg (Rc frame recX)
open Ext (RowL)
open Vm (Offd)
open Pk (zoneOf)
theorem torn_walk {A:Option Addr} {m c:Nat} {ls:List Wr} {w:World} (h:RowS cellsW 5 w A m c ls) (zones at_:Int) (x:Wr) (kp:Int):
  Calls Tryz.prog 4 #[.slice A m c,.int .i64 zones,.int .i64 at_,.agg #[.int .i64 x.zone,.int .i64 x.lba,.int .i64 x.n,cb x.by_,.bool x.trim],.int .i64 kp] w fun e w'=>e= .returned (.bool true)∧Below w.heap.size w w':=by
 have HLV:=fun W=>Lib.hid (live_any W)
 have HH:=Lib.hid h
 have hmb:=h.big
 clear h
 obtain⟨bn,hbn⟩:∃z:Int,cb x.by_= .int .u8 z:=⟨_,rfl⟩
 obtain⟨xz,xl,xn,xb,xt⟩:=x
 dsimp only at hbn
 rw[hbn]
 have HBN:=Lib.hid hbn
 clear hbn
 have bb:Below w.heap.size w (w.alloc (.cells #[.int .i64 xz,.int .i64 xl,.int .i64 xn,.int .u8 bn,.bool xt] 44)):=(Below.refl _ w).alloc (Nat.le_refl _) _
 have L0:=Lib.hid bb
 have B0:Hid (Cells (w.alloc (.cells #[.int .i64 xz,.int .i64 xl,.int .i64 xn,.int .u8 bn,.bool xt] 44)) w.heap.size 44 #[.int .i64 xz,.int .i64 xl,.int .i64 xn,.int .u8 bn,.bool xt]):=Cells.new _ _ _
 clear bb
 by_cases hm:(30:Int)<(m:Int)
 ·go_enter Tryz.func4,Tryz.ntmps4
  go_upto_region 1 with fail
  generalize w.alloc (.cells #[.int .i64 xz,.int .i64 xl,.int .i64 xn,.int .u8 bn,.bool xt] 44)=w0 at*
  go_wp2_with (go_at_call 8;refine(HLV w0).out.mono ?_;rintro e w1 ⟨rfl,hb⟩;have L1:=Lib.hid (L0.out.trans (hb.mono L0.out.size));clear hb)
  go_ret
  exact⟨rfl,L1.out⟩
 ·obtain⟨r1,j1,k1,k2,k3,k4,k5,k6⟩:∃(r:Int) (j:Nat),Int.tmod zones 4=r∧ -4<r∧r<4∧Int.tmod (r+4) 4=j∧(r+4)%4=j∧j<4:=Cut.cut_at zones 4 (by omega)
  obtain⟨n,hn⟩:∃n:Nat,(1:Int)+(j1:Int)=(n:Int):=⟨1+j1,by omega⟩
  have hn1:1≤n:=by omega
  have hn4:n≤4:=by omega
  have hm30:m≤30:=by omega
  have HRUN:=fun W (hW:Below w.heap.size w W)=>Lib.hid (run_any (HH.out.below hW) (by omega:m≤40) hn1 hn4)
  go_enter Tryz.func4,Tryz.ntmps4
  go_upto_region 1 with fail
  generalize w.alloc (.cells #[.int .i64 xz,.int .i64 xl,.int .i64 xn,.int .u8 bn,.bool xt] 44)=w0 at*
  go_upto_region 8 with(first
   |(go_at_call 8;refine(HLV w0).out.mono ?_;rintro e w1 ⟨rfl,hb⟩;have L1:=Lib.hid (L0.out.trans (hb.mono L0.out.size));have B1:=Lib.hid (Cells.below B0.out hb);clear hb)
   |(go_at_call 9;refine(HRUN w1 L1.out).out.mono ?_;rintro e w2 ⟨X,L,mb,ws,rfl,hR⟩;have L2:=Lib.hid (L1.out.trans (hR.out.bel.mono L1.out.size));have B2:=Lib.hid (Cells.below B1.out hR.out.bel)))
  clear k1 k2 k3 k4 k5 k6 hn HRUN HLV B0 B1
  have bb:Below w2.heap.size w2 (w2.alloc (.cells #[.int .i64 X.cap,.int .i64 X.op,.int .i64 X.ac,.slice X.A X.n X.c] 26)):=(Below.refl _ w2).alloc (Nat.le_refl _) _
  have L3:=Lib.hid (L2.out.trans (bb.mono L2.out.size))
  have B3:=Lib.hid (Cells.below B2.out bb)
  have C3:Hid (Cells (w2.alloc (.cells #[.int .i64 X.cap,.int .i64 X.op,.int .i64 X.ac,.slice X.A X.n X.c] 26)) w2.heap.size 26 #[.int .i64 X.cap,.int .i64 X.op,.int .i64 X.ac,.slice X.A X.n X.c]):=Cells.new _ _ _
  have D3:Hid (DevAt (w2.alloc (.cells #[.int .i64 X.cap,.int .i64 X.op,.int .i64 X.ac,.slice X.A X.n X.c] 26)) X):=hR.out.dev.below bb
  have HPX:=Lib.hid hR.out.px
  have HOK:=Lib.hid hR.out.ok
  have HLG:=Lib.hid hR.out.lg
  generalize w2.alloc (.cells #[.int .i64 X.cap,.int .i64 X.op,.int .i64 X.ac,.slice X.A X.n X.c] 26)=w3 at*
  generalize w2.heap.size=dg at*
  clear bb hR L2 B2
  have HXN:Hid (X.n=n):=by show _=_;rw[←D3.out.plen,HPX.out];exact zsOf_len n L
  obtain⟨r2,z,a1,a2,a3,a4,a5,a6⟩:=Cut.cut_at at_ n (by omega)
  have hn0:¬n=0:=by omega
  obtain⟨v,hv,hvd,-⟩:=dat_of D3.out HPX.out a6
  have hvz:v.z=zoneOf 4000 0 (datZ z (rsOf L z)):=by
   have e1:X.p.zs[z]? =some (zoneOf 4000 0 (datZ z (rsOf L z))):=by rw[HPX.out];exact zsOf_get L a6
   have e2:X.p.zs[z]? =X.xs[z]?.map Zv.z:=by show(X.xs.map Zv.z)[z]? =_;rw[List.getElem?_map]
   rw[e2,hv] at e1
   exact Option.some.inj e1
  have hroom:=HLG.out.room z a6
  obtain⟨b,o,hA,hb,hc⟩:=D3.out.row.elem hv
  have hz0:(0:Int)≤(z:Int):=by omega
  have hz1:(z:Int)<(X.n:Int):=by have:=HXN.out;omega
  have HZN:=Lib.hid a6
  obtain⟨dn,hdn⟩:∃q,q=v.z.data.length:=⟨_,rfl⟩
  have hdn2:dn=(datZ z (rsOf L z)).length:=by rw[hdn,hvd]
  have HDN:=Lib.hid hdn2
  have c0:w3.cell? ⟨b,o+z*3,none⟩=some (.int .i64 v.z.st):=hc w3 rfl 0 _ rfl
  have c2:w3.cell? ⟨b,o+z*3+2,none⟩=some (.slice v.D dn v.c):=by rw[hdn];exact hc w3 rfl 2 _ rfl
  have m3:w3.cell? ⟨dg,3,none⟩=some (.slice (some ⟨b,o,none⟩) X.n X.c):=by rw[←hA];exact Cells.cell C3.out 3
  have HST:Hid (v.z.st=bif (dn:Int)==0 then 0 else bif (dn:Int)==4000 then 4 else 1):=by show _=_;rw[hvz,hdn2];rfl
  have hdb:dn≤4000:=by rw[hdn2];exact hroom
  generalize v.z.st=vst at*
  clear hv hvd hvz hroom hA hb hc hdn hdn2 a5
  go_upto_region 9 with fail
  clear a1 a2 a3 a4
  rcases e0:((dn:Int)==0)
  ·rcases e4:(vst==4)
   ·have HD0:Hid (0<dn∧dn<4000):=by
      have h1:=HST.out
      have h2:=beq_eq_false_iff_ne.1 e0
      rw[e0,cond_false] at h1
      rcases e5:((dn:Int)==4000)
      ·have h3:=beq_eq_false_iff_ne.1 e5
       show _∧_
       omega
      ·rw[e5,cond_true] at h1
       rw[h1] at e4
       cases e4
    go_upto_region 11 with fail
    clear c0 c2 m3 e0 e4 HST
    obtain⟨r3,q5,d1,d2,d3,d4,d5,d6⟩:∃(r:Int) (j:Nat),Int.tmod xn 5=r∧ -5<r∧r<5∧Int.tmod (r+5) 5=j∧(r+5)%5=j∧j<5:=Cut.cut_at xn 5 (by omega)
    obtain⟨nr,hnr⟩:∃M:Nat,(1:Int)+(q5:Int)=(M:Int):=⟨1+q5,by omega⟩
    have hnr1:1≤nr:=by omega
    have hnr5:nr≤5:=by omega
    have x2:w3.cell? ⟨w.heap.size,2,none⟩=some (.int .i64 xn):=Cells.cell B3.out 2
    go_upto_region 12 with fail
    clear d1 d2 d3 d4 d5 d6 hnr x2
    obtain⟨r4,lb,b1,b2,b3,b4,b5,b6⟩:∃(r:Int) (j:Nat),Int.tmod xl 50=r∧ -50<r∧r<50∧Int.tmod (r+50) 50=j∧(r+50)%50=j∧j<50:=Cut.cut_at xl 50 (by omega)
    obtain⟨N16,hN16⟩:∃N:Nat,N=16*nr:=⟨_,rfl⟩
    have hN:(16:Int)*(nr:Int)=(N16:Int):=by omega
    have HN16:=Lib.hid hN16
    have hN80:N16≤80:=by omega
    have HF:=fun W=>Lib.hid (fill_any xb (n:=N16) (by omega) W)
    rw[HBN.out] at HF
    obtain⟨r,hr⟩:∃r:Rc,r=⟨1,(lb:Int),(nr:Int),1000,0,0,List.replicate N16 xb⟩:=⟨_,rfl⟩
    have HWR:Hid (WR 1000 r):=by
     rw[hr]
     exact⟨rfl,by omega,by omega,by show(0:Int)≤(lb:Int);omega,by show(lb:Int)<50;omega,by show(1:Int)≤(nr:Int);omega,by show(nr:Int)≤5;omega,rfl,rfl,.inl ⟨rfl,xb,by show List.replicate N16 xb=List.replicate (16*((nr:Nat):Int).toNat) xb;rw[hN16,Int.toNat_natCast]⟩⟩
    have HRD:Hid (r.data=List.replicate N16 xb):=by rw[hr];rfl
    have HRC:=fun(FA:Option Addr) (W:World) (h:Row cb W FA N16 N16 r.data)=>Lib.hid (rec_call HWR.out h)
    have hre:r.kind=1∧r.lba=(lb:Int)∧r.n=(nr:Int)∧r.ver=1000∧r.zone=0∧r.off=0:=by rw[hr];exact⟨rfl,rfl,rfl,rfl,rfl,rfl⟩
    rw[hre.1,hre.2.1,hre.2.2.1,hre.2.2.2.1,hre.2.2.2.2.1,hre.2.2.2.2.2] at HRC
    have hw1:IntKind.i64.wrap (r4+50)=r4+50:=by rw[IntKind.wrap_i64];omega
    have hw2:IntKind.i64.wrap (N16:Int)=(N16:Int):=by rw[IntKind.wrap_i64];omega
    have hw3:IntKind.i64.wrap ((16:Int)*(nr:Int))=(N16:Int):=by rw[hN];exact hw2
    clear hN16 hr hre
    have HS:=fun W (hW:Below w3.heap.size w3 W)=>(show W.cell? ⟨w.heap.size,1,none⟩=some (.int .i64 xl)∧W.cell? ⟨w.heap.size,3,none⟩=some (.int .u8 bn) from⟨Cells.cell (Cells.below B3.out hW) 1,Cells.cell (Cells.below B3.out hW) 3⟩)
    have M3:Hid (Below w3.heap.size w3 w3):=Below.refl _ _
    have N4:=Lib.hid (M3.out.drew)
    refine wp_region_held_drew (S:=fun W=>W.cell? ⟨w.heap.size,1,none⟩=some (.int .i64 xl)∧W.cell? ⟨w.heap.size,3,none⟩=some (.int .u8 bn)) (by kernel_rfl) (HS _ N4.out) (fun hHeld=> ?_)
    generalize w3.drew=w4 at*
    refine Reg.tk 0 rfl ?_
    refine Reg.tk 1 rfl ?_
    refine Reg.tk 2 rfl ?_
    refine Reg.tk 3 rfl ?_
    refine Reg.tk 4 rfl ?_
    refine Reg.tk 5 rfl ?_
    refine Reg.tk 6 rfl ?_
    refine Reg.tk 7 rfl ?_
    refine Reg.tk 8 rfl ?_
    refine Reg.tk 9 rfl ?_
    refine Reg.step 10 rfl (by kernel_rfl) (by rfl) (fun K hK=> ?_)
    go_simp
    refine(HF w4).out.mono ?_
    rintro e w5 ⟨FA,rfl,hO,hb⟩
    have N5:=Lib.hid (N4.out.trans (hb.mono N4.out.size))
    have R5:=Lib.hid (Wire.gave_row hO (by rw[List.length_replicate];omega)).1
    rw[←HRD.out] at R5
    clear hO hb HF
    refine hK.out _ _ (HS _ N5.out) (fun hHeld=> ?_)
    clear hK K
    (try simp only[Act.put,List.setIfInBounds_toArray,List.set_cons_zero,List.set_cons_succ])
    refine Reg.tk 11 rfl ?_
    refine Reg.step 12 rfl (by kernel_rfl) (by rfl) (fun K hK=> ?_)
    go_simp
    refine(HRC FA w5 R5.out).out.mono ?_
    rintro e w6 ⟨RB,fl,rd,rfl,hB,hb⟩
    have N6:=Lib.hid (N5.out.trans (hb.mono N5.out.size))
    have R6:=Lib.hid hB.out.2
    have HFL:=Lib.hid hB.out.1
    clear hB hb HRC R5
    refine hK.out _ _ (HS _ N6.out) (fun hHeld=> ?_)
    clear hK K
    (try simp only[Act.put,List.setIfInBounds_toArray,List.set_cons_zero,List.set_cons_succ])
    refine Reg.tk 13 rfl ?_
    refine Reg.tk 14 rfl ?_
    refine Reg.tk 15 rfl ?_
    refine Reg.tk 16 rfl ?_
    refine Reg.tk 17 rfl ?_
    refine wpAnyH_done (by kernel_rfl) ?_ _
    clear hHeld HS
    have hfl:1≤fl∧fl≤40100:=by
     have h1:=HFL.out
     have h2:(frame (recX r)).length≤40100:=Pk.flen_le HWR.out.fits HWR.out.check
     have h3:=Pk.flen_ge r
     unfold Pk.flen at h3
     omega
    obtain⟨q,hq⟩:∃q:Nat,(fl:Int)+1=(q:Int):=⟨fl+1,by omega⟩
    have hq0:¬q=0:=by omega
    obtain⟨r6,kk,f1,f2,f3,f4,f5,f6⟩:=Cut.cut_at kp q (by omega)
    have f7:Int.tmod (r6+(fl:Int)+1) (q:Int)=(kk:Int):=by rw[←f4];congr 1;omega
    have hkk:kk≤fl:=by omega
    have C6:=Lib.hid (Cells.below C3.out N6.out)
    have D6:=Lib.hid (D3.out.below N6.out)
    have L6:=Lib.hid (L3.out.trans (N6.out.mono L3.out.size))
    have hfl1:=hfl.1
    have hfl2:=hfl.2
    go_upto_region 16 with fail
    clear f1 f2 f3 f4 f5 f6 f7 hq hq0 b1 b2 b3 b4 b5 b6 B3 C3 D3 L3 N4 N5 N6 M3 hfl HN16 hN HRD hw1 hw2 hw3
    have HDO:=Lib.hid (tear_call (keep:=kk) D6.out HPX.out HOK.out hn4 HZN.out (by have:=HDN.out;have:=HD0.out.1;omega) (by have:=HDN.out;have:=HD0.out.2;omega) HFL.out R6.out (by have:=HFL.out;omega) (by have:=HFL.out;omega))
    rw[←HDN.out,←HFL.out] at HDO
    have m0:=Cells.cell C6.out 0
    have m1:=Cells.cell C6.out 1
    have m2:=Cells.cell C6.out 2
    have m3:=Cells.cell C6.out 3
    by_cases hrm:dn+fl≤4000
    ·rw[if_pos hrm] at HDO
     have HRM:=Lib.hid hrm
     go_upto_region 17 with(go_at_call 16;refine HDO.out.mono ?_;rintro e w7 ⟨Y,DC,dk,rfl,hY,hb⟩;have L7:=Lib.hid (L6.out.trans (hb.mono L6.out.size));have K7:=Lib.hid hb;clear hb)
     have bb:Below w7.heap.size w7 ((w7.alloc (.cells #[.int .i64 Y.cap,.int .i64 Y.op,.int .i64 Y.ac,.slice Y.A Y.n Y.c] 26)).alloc (.cells #[.int .i64 0,.int .i64 0,.slice DC 0 dk] 51)):=((Below.refl _ w7).alloc (Nat.le_refl _) _).alloc (by simp) _
     have L8:=Lib.hid (L7.out.trans (bb.mono L7.out.size))
     have C8:=Lib.hid (Cells.below C6.out (K7.out.trans (bb.mono K7.out.size)))
     have D8:=Lib.hid (D6.out.below (K7.out.trans (bb.mono K7.out.size)))
     have Y8:=Lib.hid (hY.out.1.below bb)
     have HYP:=Lib.hid hY.out.2
     have U8:Hid (Cells ((w7.alloc (.cells #[.int .i64 Y.cap,.int .i64 Y.op,.int .i64 Y.ac,.slice Y.A Y.n Y.c] 26)).alloc (.cells #[.int .i64 0,.int .i64 0,.slice DC 0 dk] 51)) w7.heap.size 26 #[.int .i64 Y.cap,.int .i64 Y.op,.int .i64 Y.ac,.slice Y.A Y.n Y.c]):=(Cells.new _ _ _).alloc _
     have V8:Hid (Cells ((w7.alloc (.cells #[.int .i64 Y.cap,.int .i64 Y.op,.int .i64 Y.ac,.slice Y.A Y.n Y.c] 26)).alloc (.cells #[.int .i64 0,.int .i64 0,.slice DC 0 dk] 51)) (w7.heap.size+1) 51 #[.int .i64 0,.int .i64 0,.slice DC 0 dk]):=by
      have:=Cells.new (w7.alloc (.cells #[.int .i64 Y.cap,.int .i64 Y.op,.int .i64 Y.ac,.slice Y.A Y.n Y.c] 26)) #[.int .i64 0,.int .i64 0,.slice DC 0 dk] 51
      rw[World.size_alloc] at this
      exact this
     clear bb m0 m1 m2 m3 HDO hY C6 D6 K7 L6 L7 R6
     try simp only[World.size_alloc]
     generalize(w7.alloc (.cells #[.int .i64 Y.cap,.int .i64 Y.op,.int .i64 Y.ac,.slice Y.A Y.n Y.c] 26)).alloc (.cells #[.int .i64 0,.int .i64 0,.slice DC 0 dk] 51)=w8 at*
     generalize w7.heap.size=yg at*
     have q0:=Cells.cell V8.out 0
     go_upto_region 21 with fail
     clear q0 V8
     have HGA:=Lib.hid (good_of HLG.out hn4)
     have HTL:Hid ((trAll (fsOf n L) (List.range n)).length≤40):=by show _≤_;rw[trAll_len HLG.out];have:=HLG.out.few;omega
     have HV8:Hid (Dev w8 X (fsOf n L)):=dev_of HLG.out hn4 D8.out HPX.out HOK.out
     have HMD:=fun W (hW:Below w8.heap.size w8 W)=>Lib.hid (dev_map (HV8.out.below hW) HXN.out HGA.out HTL.out)
     have HND:=fun W (hW:Below w8.heap.size w8 W)=>Lib.hid (dev_newest (HV8.out.below hW) HXN.out HGA.out)
     have HNE:Hid (rsOf L z≠ []):=by
      intro e
      have h1:=HDN.out
      rw[e] at h1
      have h2:=HD0.out.1
      have h3:(datZ z []).length=0:=rfl
      omega
     obtain⟨hYp,hYok⟩:=HYP.out HRM.out
     have HYp:=Lib.hid hYp
     have HYok:=Lib.hid hYok
     clear hYp hYok HYP HD0
     by_cases hkf:kk=fl
     ·have HKF:=Lib.hid hkf
      have HBL:Hid (Y.p=dvOf n (L++ [(z,r)])∧LgOk n 1000 (L++ [(z,r)])∧okD (dvOf n (L++ [(z,r)]))=true):=by
       have h1:=dat_more (z:=z) (r:=r) HNE.out
       have h2:Y.p=dvOf n (L++ [(z,r)]):=by
        rw[HYp.out,List.take_of_length_le (by have:=HFL.out;have:=HKF.out;omega),←h1,zsOf_set L r HZN.out];rfl
       refine⟨h2,HLG.out.big (by omega) HZN.out HWR.out ?_,by rw[←h2];exact HYok.out⟩
       rw[h1,List.length_append]
       have:=HDN.out;have:=HFL.out;have:=HRM.out
       omega
      have HGX:=Lib.hid (good_of HBL.out.2.1 hn4)
      have HTX:Hid ((trAll (fsOf n (L++ [(z,r)])) (List.range n)).length≤40):=by show _≤_;rw[trAll_len HBL.out.2.1,List.length_append];have:=HLG.out.few;simp;omega
      have HVX:Hid (Dev w8 Y (fsOf n (L++ [(z,r)]))):=dev_of HBL.out.2.1 hn4 Y8.out HBL.out.1 HBL.out.2.2
      have HYN:Hid (Y.n=n):=by show _=_;rw[←Y8.out.plen,HYp.out];show((zsOf n L).set z _).length=n;rw[List.length_set,zsOf_len]
      have HMX:=fun W (hW:Below w8.heap.size w8 W)=>Lib.hid (dev_map (HVX.out.below hW) HYN.out HGX.out HTX.out)
      have HNX:=fun W (hW:Below w8.heap.size w8 W)=>Lib.hid (dev_newest (HVX.out.below hW) HYN.out HGX.out)
      have K0:Hid (Below w8.heap.size w8 w8):=Below.refl _ _
      have m0:=Cells.cell C8.out 0
      have m1:=Cells.cell C8.out 1
      have m2:=Cells.cell C8.out 2
      have m3:=Cells.cell C8.out 3
      go_upto_region 22 with(go_at_call 10;refine(HMD w8 K0.out).out.mono ?_;rintro e w9 ⟨MA,qa,ca,ma,rfl,hM,hb⟩;have K9:=Lib.hid hb;have M9:=Lib.hid hM.out;clear hb hM)
      clear m0 m1 m2 m3
      have U9:=Lib.hid (Cells.below U8.out K9.out)
      have m0:=Cells.cell U9.out 0
      have m1:=Cells.cell U9.out 1
      have m2:=Cells.cell U9.out 2
      have m3:=Cells.cell U9.out 3
      go_upto_region 23 with(go_at_call 10;refine(HMX w9 K9.out).out.mono ?_;rintro e w10 ⟨MB,qb,cb2,mb2,rfl,hM,hb⟩;have K10:=Lib.hid (K9.out.trans (hb.mono K9.out.size));have J10:=Lib.hid hb;have M10:=Lib.hid hM.out;clear hb hM)
      clear m0 m1 m2 m3 U9
      have U10:=Lib.hid (Cells.below U8.out K10.out)
      have m0:=Cells.cell U10.out 0
      have m1:=Cells.cell U10.out 1
      have m2:=Cells.cell U10.out 2
      have m3:=Cells.cell U10.out 3
      have HTO:=fun W (hW:Below w8.heap.size w8 W)=>Lib.hid (torn_none (HVX.out.below hW) (fun k v f hv hf=>by
       have hk:k<n:=by have:=(List.getElem?_eq_some_iff.1 hf).1;simpa [fsOf] using this
       have e:=Option.some.inj (hf.symm.trans (fsOf_get _ hk))
       obtain⟨v',hv',hd,-⟩:=dat_of Y8.out HBL.out.1 hk
       have ev:=Option.some.inj (hv.symm.trans hv')
       rw[e,used_len,ev,hd]))
      go_upto_region 24 with(go_at_call 11;refine(HTO w10 K10.out).out.mono ?_;rintro e w11 ⟨rfl,hb⟩;have K11:=Lib.hid (K10.out.trans (hb.mono K10.out.size));clear hb)
      clear m0 m1 m2 m3 U10 HTO
      have hkf2:(kk==fl)=true:=by rw[HKF.out];simp
      have hkf3:((kk:Int)==(fl:Int))=true:=by rw[HKF.out];simp
      have HNW:=HNX w11 K11.out
      rw[newest_big HBL.out.2.1 HWR.out.ver] at HNW
      have U11:=Lib.hid (Cells.below U8.out K11.out)
      have m0:=Cells.cell U11.out 0
      have m1:=Cells.cell U11.out 1
      have m2:=Cells.cell U11.out 2
      have m3:=Cells.cell U11.out 3
      clear hkf
      go_wp2_with (go_at_call 17;refine HNW.out.mono ?_;rintro e w12 ⟨rfl,hb⟩;have K12:=Lib.hid (K11.out.trans (hb.mono K11.out.size));clear hb)
      go_ret
      exact⟨rfl,L8.out.trans (K12.out.mono L8.out.size)⟩
     ·have HKF:=Lib.hid hkf
      have HTD:=Lib.hid (torn_dev (keep:=kk) HLG.out hn4 Y8.out HZN.out HWR.out.good (by have:=HFL.out;have:=HKF.out;omega) HNE.out HYp.out HYok.out)
      have HGX:=Lib.hid HGA.out
      have HTX:=Lib.hid HTL.out
      have HVX:=Lib.hid HTD.out.1
      have HYN:Hid (Y.n=n):=by show _=_;rw[←Y8.out.plen,HYp.out];show((zsOf n L).set z _).length=n;rw[List.length_set,zsOf_len]
      have HMX:=fun W (hW:Below w8.heap.size w8 W)=>Lib.hid (dev_map (HVX.out.below hW) HYN.out HGX.out HTX.out)
      have HNX:=fun W (hW:Below w8.heap.size w8 W)=>Lib.hid (dev_newest (HVX.out.below hW) HYN.out HGX.out)
      have K0:Hid (Below w8.heap.size w8 w8):=Below.refl _ _
      have m0:=Cells.cell C8.out 0
      have m1:=Cells.cell C8.out 1
      have m2:=Cells.cell C8.out 2
      have m3:=Cells.cell C8.out 3
      go_upto_region 22 with(go_at_call 10;refine(HMD w8 K0.out).out.mono ?_;rintro e w9 ⟨MA,qa,ca,ma,rfl,hM,hb⟩;have K9:=Lib.hid hb;have M9:=Lib.hid hM.out;clear hb hM)
      clear m0 m1 m2 m3
      have U9:=Lib.hid (Cells.below U8.out K9.out)
      have m0:=Cells.cell U9.out 0
      have m1:=Cells.cell U9.out 1
      have m2:=Cells.cell U9.out 2
      have m3:=Cells.cell U9.out 3
      go_upto_region 23 with(go_at_call 10;refine(HMX w9 K9.out).out.mono ?_;rintro e w10 ⟨MB,qb,cb2,mb2,rfl,hM,hb⟩;have K10:=Lib.hid (K9.out.trans (hb.mono K9.out.size));have J10:=Lib.hid hb;have M10:=Lib.hid hM.out;clear hb hM)
      clear m0 m1 m2 m3 U9
      have U10:=Lib.hid (Cells.below U8.out K10.out)
      have m0:=Cells.cell U10.out 0
      have m1:=Cells.cell U10.out 1
      have m2:=Cells.cell U10.out 2
      have m3:=Cells.cell U10.out 3
      have HTO:∀W,Below w8.heap.size w8 W→Hid (Calls Tryz.prog 11 #[.agg #[.int .i64 Y.cap,.int .i64 Y.op,.int .i64 Y.ac,.slice Y.A Y.n Y.c]] W fun e w'=>∃A tq c,e= .returned (.slice A tq c)∧Hid (((kk:Int)==0)=((tq:Int)==0))∧Below W.heap.size W w'):=fun W hW=>by
       by_cases hk0:kk=0
       ·refine(torn_none (HVX.out.below hW) (fun k v f hv hf=> ?_)).mono ?_
        ·have hk:k<n:=by have:=(List.getElem?_eq_some_iff.1 hf).1;simpa [fsOf] using this
         obtain⟨v',f',h1,h2,h3⟩:=HTD.out.2 k hk
         have ev:=Option.some.inj (hv.symm.trans h1)
         have ef:=Option.some.inj (hf.symm.trans h2)
         rw[ev,ef]
         split at h3<;>omega
        ·rintro e w' ⟨rfl,hb⟩
         exact⟨none,0,0,rfl,by show _=_;rw[hk0],hb⟩
       ·refine(torn_any (HVX.out.below hW) (fun k=>k==z) (fun k v f hv hf=> ?_)).mono ?_
        ·have hk:k<n:=by have:=(List.getElem?_eq_some_iff.1 hf).1;simpa [fsOf] using this
         obtain⟨v',f',h1,h2,h3⟩:=HTD.out.2 k hk
         have ev:=Option.some.inj (hv.symm.trans h1)
         have ef:=Option.some.inj (hf.symm.trans h2)
         rw[ev,ef]
         by_cases hkz:k=z
         ·rw[if_pos hkz] at h3
          rw[decide_eq_true (by omega),hkz];simp
         ·rw[if_neg hkz] at h3
          rw[decide_eq_false (by omega),beq_eq_false_iff_ne.2 hkz]
        ·rintro e w' ⟨TA,tc,rfl,hb⟩
         have h1:=torn_one (n:=n) HZN.out
         rw[HYN.out]
         refine⟨TA,_,tc,rfl,?_,hb⟩
         show _=_
         rw[beq_eq_false_iff_ne.2 (by omega:(kk:Int)≠0),beq_eq_false_iff_ne.2 (by omega)]
      go_upto_region 24 with(go_at_call 11;refine(HTO w10 K10.out).out.mono ?_;rintro e w11 ⟨TA,tq,tc,rfl,hT,hb⟩;have K11:=Lib.hid (K10.out.trans (hb.mono K10.out.size));have J11:=Lib.hid hb;clear hb)
      clear m0 m1 m2 m3 U10 HTO
      have hkf2:((kk:Int)==(fl:Int))=false:=beq_eq_false_iff_ne.2 (by have:=HKF.out;omega)
      have HMM:Hid (ma=mb2):=offd_one M9.out.2 M10.out.2
      have R9:=Lib.hid (M9.out.1.below (J10.out.trans (J11.out.mono J10.out.size)))
      have R10:=Lib.hid (M10.out.1.below J11.out)
      rw[←HMM.out] at R10
      obtain rfl:qa=qb:=R9.out.len.symm.trans R10.out.len
      have HEQ:=fun W (hW:Below w11.heap.size w11 W)=>Lib.hid (Ext.equal_any (R9.out.below hW) (R10.out.below hW))
      have U11:=Lib.hid (Cells.below U8.out K11.out)
      have C11:=Lib.hid (Cells.below C8.out K11.out)
      have HS:=fun W (hW:Below w11.heap.size w11 W)=>(show(W.cell? ⟨yg,0,none⟩=some (.int .i64 Y.cap)∧W.cell? ⟨yg,1,none⟩=some (.int .i64 Y.op)∧W.cell? ⟨yg,2,none⟩=some (.int .i64 Y.ac)∧W.cell? ⟨yg,3,none⟩=some (.slice Y.A Y.n Y.c))∧(W.cell? ⟨dg,0,none⟩=some (.int .i64 X.cap)∧W.cell? ⟨dg,1,none⟩=some (.int .i64 X.op)∧W.cell? ⟨dg,2,none⟩=some (.int .i64 X.ac)∧W.cell? ⟨dg,3,none⟩=some (.slice X.A X.n X.c)) from⟨⟨Cells.cell (Cells.below U11.out hW) 0,Cells.cell (Cells.below U11.out hW) 1,Cells.cell (Cells.below U11.out hW) 2,Cells.cell (Cells.below U11.out hW) 3⟩,⟨Cells.cell (Cells.below C11.out hW) 0,Cells.cell (Cells.below C11.out hW) 1,Cells.cell (Cells.below C11.out hW) 2,Cells.cell (Cells.below C11.out hW) 3⟩⟩)
      clear hkf M9 M10 R9 R10 J10 J11 HMD HMX
      obtain⟨bt,ht1,ht2⟩:∃bt,((kk:Int)==0)=bt∧((tq:Int)==0)=bt:=⟨_,rfl,hT.out.symm⟩
      clear hT
      go_upto_region 28 with fail
      have M11:Hid (Below w11.heap.size w11 w11):=Below.refl _ _
      have N12:=Lib.hid (M11.out.drew)
      refine wp_region_held_drew (S:=fun W=>(W.cell? ⟨yg,0,none⟩=some (.int .i64 Y.cap)∧W.cell? ⟨yg,1,none⟩=some (.int .i64 Y.op)∧W.cell? ⟨yg,2,none⟩=some (.int .i64 Y.ac)∧W.cell? ⟨yg,3,none⟩=some (.slice Y.A Y.n Y.c))∧(W.cell? ⟨dg,0,none⟩=some (.int .i64 X.cap)∧W.cell? ⟨dg,1,none⟩=some (.int .i64 X.op)∧W.cell? ⟨dg,2,none⟩=some (.int .i64 X.ac)∧W.cell? ⟨dg,3,none⟩=some (.slice X.A X.n X.c))) (by kernel_rfl) (HS _ N12.out) (fun hHeld=> ?_)
      generalize w11.drew=w12 at*
      refine Reg.tk 0 rfl ?_
      refine Reg.tk 1 rfl ?_
      refine Reg.tk 2 rfl ?_
      refine Reg.tk 3 rfl ?_
      refine Reg.step 4 rfl (by kernel_rfl) (by rfl) (fun K hK=> ?_)
      go_simp
      refine(HEQ w12 N12.out).out.mono ?_
      rintro e w13 ⟨rfl,hb⟩
      have N13:=Lib.hid (N12.out.trans (hb.mono N12.out.size))
      clear hb HEQ
      refine hK.out _ _ (HS _ N13.out) (fun hHeld=> ?_)
      clear hK K
      (try simp only[Act.put,List.setIfInBounds_toArray,List.set_cons_zero,List.set_cons_succ])
      refine Reg.tk 5 rfl ?_
      refine Reg.tk 6 rfl ?_
      refine Reg.tk 7 rfl ?_
      refine Reg.tk 8 rfl ?_
      refine Reg.tk 9 rfl ?_
      refine Reg.tk 10 rfl ?_
      refine Reg.tk 11 rfl ?_
      refine Reg.tk 12 rfl ?_
      refine Reg.tk 13 rfl ?_
      refine Reg.tk 14 rfl ?_
      refine Reg.tk 15 rfl ?_
      refine Reg.tk 17 rfl ?_
      refine Reg.step 16 rfl (by kernel_rfl) (by rfl) (fun K hK=> ?_)
      go_simp
      refine(HNX w13 (K11.out.trans (N13.out.mono K11.out.size))).out.mono ?_
      rintro e w14 ⟨rfl,hb⟩
      have N14:=Lib.hid (N13.out.trans (hb.mono N13.out.size))
      clear hb HNX
      refine hK.out _ _ (HS _ N14.out) (fun hHeld=> ?_)
      clear hK K
      (try simp only[Act.put,List.setIfInBounds_toArray,List.set_cons_zero,List.set_cons_succ])
      refine Reg.step 18 rfl (by kernel_rfl) (by rfl) (fun K hK=> ?_)
      go_simp
      refine(HND w14 (K11.out.trans (N14.out.mono K11.out.size))).out.mono ?_
      rintro e w15 ⟨rfl,hb⟩
      have N15:=Lib.hid (N14.out.trans (hb.mono N14.out.size))
      clear hb HND
      refine hK.out _ _ (HS _ N15.out) (fun hHeld=> ?_)
      clear hK K
      (try simp only[Act.put,List.setIfInBounds_toArray,List.set_cons_zero,List.set_cons_succ])
      generalize maxV (trAll (fsOf n L) (List.range n))=MV at*
      refine Reg.tk 19 rfl ?_
      refine Reg.tk 20 rfl ?_
      refine Reg.tk 21 rfl ?_
      refine wpAnyH_done (by kernel_rfl) ?_ _
      clear hHeld HS
      go_wp2_with fail
      go_ret
      exact⟨rfl,L8.out.trans ((K11.out.trans (N15.out.mono K11.out.size)).mono L8.out.size)⟩
    ·rw[if_neg hrm] at HDO
     go_upto_region 17 with(go_at_call 16;refine HDO.out.mono ?_;rintro e w7 ⟨Y,DC,dk,rfl,hY,hb⟩;have L7:=Lib.hid (L6.out.trans (hb.mono L6.out.size));have K7:=Lib.hid hb;clear hb)
     have bb:Below w7.heap.size w7 ((w7.alloc (.cells #[.int .i64 Y.cap,.int .i64 Y.op,.int .i64 Y.ac,.slice Y.A Y.n Y.c] 26)).alloc (.cells #[.int .i64 40,.int .i64 0,.slice DC 0 dk] 51)):=((Below.refl _ w7).alloc (Nat.le_refl _) _).alloc (by simp) _
     have L8:=Lib.hid (L7.out.trans (bb.mono L7.out.size))
     have C8:=Lib.hid (Cells.below C6.out (K7.out.trans (bb.mono K7.out.size)))
     have D8:=Lib.hid (D6.out.below (K7.out.trans (bb.mono K7.out.size)))
     have Y8:=Lib.hid (hY.out.1.below bb)
     have HYP:=Lib.hid hY.out.2
     have U8:Hid (Cells ((w7.alloc (.cells #[.int .i64 Y.cap,.int .i64 Y.op,.int .i64 Y.ac,.slice Y.A Y.n Y.c] 26)).alloc (.cells #[.int .i64 40,.int .i64 0,.slice DC 0 dk] 51)) w7.heap.size 26 #[.int .i64 Y.cap,.int .i64 Y.op,.int .i64 Y.ac,.slice Y.A Y.n Y.c]):=(Cells.new _ _ _).alloc _
     have V8:Hid (Cells ((w7.alloc (.cells #[.int .i64 Y.cap,.int .i64 Y.op,.int .i64 Y.ac,.slice Y.A Y.n Y.c] 26)).alloc (.cells #[.int .i64 40,.int .i64 0,.slice DC 0 dk] 51)) (w7.heap.size+1) 51 #[.int .i64 40,.int .i64 0,.slice DC 0 dk]):=by
      have:=Cells.new (w7.alloc (.cells #[.int .i64 Y.cap,.int .i64 Y.op,.int .i64 Y.ac,.slice Y.A Y.n Y.c] 26)) #[.int .i64 40,.int .i64 0,.slice DC 0 dk] 51
      rw[World.size_alloc] at this
      exact this
     clear bb m0 m1 m2 m3 HDO hY C6 D6 K7 L6 L7 R6
     try simp only[World.size_alloc]
     generalize(w7.alloc (.cells #[.int .i64 Y.cap,.int .i64 Y.op,.int .i64 Y.ac,.slice Y.A Y.n Y.c] 26)).alloc (.cells #[.int .i64 40,.int .i64 0,.slice DC 0 dk] 51)=w8 at*
     generalize w7.heap.size=yg at*
     have q0:=Cells.cell V8.out 0
     go_wp2_with fail
     go_ret
     exact⟨rfl,L8.out⟩
   ·go_wp2_with fail
    go_ret
    exact⟨rfl,L3.out⟩
  ·go_wp2_with fail
   go_ret
   exact⟨rfl,L3.out⟩
end Rp
end
end Go.Proofs.YtmkagjnkpjpjcaaGreat
