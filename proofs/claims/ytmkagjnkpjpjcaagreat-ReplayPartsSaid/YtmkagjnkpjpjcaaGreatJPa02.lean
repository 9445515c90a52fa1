/-
  SEVERAL TEXTS IN ONE FILE: PRepMapZ, PRunPart, PRunOpen, PRunParts, PRepPartsRow.
-/
import Derived.Test.YtmkagjnkpjpjcaaGreatJPa01
import Derived.Test.YtmkagjnkpjpjcaaGreatJ15
import Derived.Test.YtmkagjnkpjpjcaaGreatJ02
import Derived.Test.YtmkagjnkpjpjcaaGreatJ19
namespace Go.Proofs.YtmkagjnkpjpjcaaGreat
set_option maxRecDepth 100000
set_option linter.unusedSimpArgs false
set_option linter.unusedVariables false
set_option maxHeartbeats 6400000
section
open Go.RowKit Go.Shelf Mem Box
namespace Rp
open Zns (Dx DevAt okD check_dev dxv)
open Ext (GaveE OwnsL)
open Vm (Offd)
section
variable {w:World} {A:Option Addr} {c n Bm:Nat} {l:List Int}
theorem sorted_n (hn:n=l.length) (hr:Row ci w A n c l) (hb:Cells w Bm 34 #[.slice A n c]) (hs:l.Pairwise (· < ·)) (hbig:n≤64):
  Calls Tryz.prog 34 #[.func (.func 65) #[] #[.pointer (some ⟨Bm,0,none⟩)]] w fun e w'=>∃B d,e= .returned (.slice B n d)∧OwnI w.heap.size w' B n d l∧Below w.heap.size w w':=by
 subst hn
 exact sorted_vals ⟨hr,hb⟩ (hs.imp Int.le_of_lt) (by omega)
theorem compact_n (hn:n=l.length) (hr:Row ci w A n c l) (hs:l.Pairwise (· < ·)):
  Calls Tryz.prog 33 #[.slice A n c] w fun e w'=>e= .returned (.slice A n c)∧Below w.heap.size w w':=by
 subst hn
 exact compact_rises hr hs
theorem contains_n (hn:n=l.length) (hr:Row ci w A n c l) {X:Dx} {dg:Nat} (h:Cells w dg 26 #[.int .i64 X.cap,.int .i64 X.op,.int .i64 X.ac,.slice X.A X.n X.c]) (hz:∀z∈l,0≤z∧z<(X.n:Int)):
  Calls Tryz.prog 29 #[.slice A n c,.func (.func 27) #[] #[.pointer (some ⟨dg,0,none⟩)]] w fun e w'=>e= .returned (.bool false)∧Below w.heap.size w w':=by
 subst hn
 exact contains_noneOf hr _ _ (enters_of Tryz.func27 (by kernel_rfl) rfl) (map_closure h hz)
end
theorem map_zones {X:Dx} {fs:List Fd} {zs:List Nat} {ZA:Option Addr} {zc n:Nat} {w:World} (h:Dev w X fs) (hn:n=zs.length) (hz:Row ci w ZA n zc (zs.map fun(z:Nat)=>(z:Int))) (hzr:zs.Pairwise (· < ·)) (hz0:0<n) (hz1:n≤64) (hzn:∀z∈zs,z<X.n) (hg:AllGood fs zs) (hf:(trAll fs zs).length≤60):
  Calls Tryz.prog 10 #[.agg #[.int .i64 X.cap,.int .i64 X.op,.int .i64 X.ac,.slice X.A X.n X.c],.slice ZA n zc] w fun e w'=>∃m,Offd ((trAll fs zs).map exT) m∧GaveE w m 0 e w':=by
 obtain⟨l,hl⟩:∃l,(zs.map fun(z:Nat)=>(z:Int))=l:=⟨_,rfl⟩
 rw[hl] at hz
 have hll:n=l.length:=by rw[←hl,List.length_map];exact hn
 have hlr:l.Pairwise (· < ·):=by rw[←hl,List.pairwise_map];exact hzr.imp fun h=>by omega
 have hlin:∀z∈l,0≤z∧z<(X.n:Int):=by
  rw[←hl]
  intro z hz
  obtain⟨y,hy,rfl⟩:=List.mem_map.1 hz
  have:=hzn y hy
  omega
 have HC:=fun W (hW:Below w.heap.size w W)=>Lib.hid (check_dev (h.at_.below hW))
 unfold dxv at HC
 rw[h.ok] at HC
 have e0:Zon.errOf true=0:=rfl
 rw[e0] at HC
 have HRM:=fun A n c w=>Lib.hid (@recs_made X A n c w)
 have HD:=Lib.hid h
 have HG:=Lib.hid hg
 have HF:=Lib.hid hf
 have HZ:=Lib.hid hz
 have HLL:=Lib.hid hll
 have HLR:=Lib.hid hlr
 have HL:=Lib.hid hl
 have HN:=Lib.hid hn
 have HZN:=Lib.hid hzn
 have hfew:=h.few
 have hnz:((n:Int)==0)=false:=beq_eq_false_iff_ne.2 (by omega)
 have HCN:=fun W (hW:Below w.heap.size w W) dg (h2:Cells W dg 26 #[.int .i64 X.cap,.int .i64 X.op,.int .i64 X.ac,.slice X.A X.n X.c])=>Lib.hid (contains_n hll (HZ.out.below hW) h2 hlin)
 have hmf:∀(fn:Fn) (first cap:Array Value) (w:World),(Instr.makeFunc fn first cap).run Tryz.prog w= .ok (.func fn first cap) w:=fun _ _ _ _=>rfl
 have L1:=Lib.hid ((Below.refl w.heap.size w).alloc (Nat.le_refl _) (.cells #[.int .i64 X.cap,.int .i64 X.op,.int .i64 X.ac,.slice X.A X.n X.c] 26))
 have B1:=Lib.hid (box_new w X)
 clear h hg hf e0 hz hll hlr hl hlin hzr hzn hn
 go_enter Tryz.func10,Tryz.ntmps10
 go_upto_region 1 with fail
 generalize w.alloc (.cells #[.int .i64 X.cap,.int .i64 X.op,.int .i64 X.ac,.slice X.A X.n X.c] 26)=w1 at*
 have m0:w1.cell? ⟨w.heap.size,0,none⟩=some (.int .i64 X.cap):=Cells.cell B1.out 0
 have m1:w1.cell? ⟨w.heap.size,1,none⟩=some (.int .i64 X.op):=Cells.cell B1.out 1
 have m2:w1.cell? ⟨w.heap.size,2,none⟩=some (.int .i64 X.ac):=Cells.cell B1.out 2
 have m3:w1.cell? ⟨w.heap.size,3,none⟩=some (.slice X.A X.n X.c):=Cells.cell B1.out 3
 go_upto_region 6 with(first
  |(go_at_call 28;refine(HC w1 L1.out).out.mono ?_;rintro e w2 ⟨rfl,hb⟩;have L2:=Lib.hid (L1.out.trans (hb.mono L1.out.size));have B2:=Lib.hid (Cells.below B1.out hb);clear hb)
  |(go_at_call 29;refine(HCN w2 L2.out _ B2.out).out.mono ?_;rintro e w3 ⟨rfl,hb⟩;have L3:=Lib.hid (L2.out.trans (hb.mono L2.out.size));have B3:=Lib.hid (Cells.below B2.out hb);clear hb))
 clear m0 m1 m2 m3 HC HCN B2 B1 L1 L2
 have HS:=fun W (hW:Below w3.heap.size w3 W)=>(show W.cell? ⟨w.heap.size,0,none⟩=some (.int .i64 X.cap)∧W.cell? ⟨w.heap.size,1,none⟩=some (.int .i64 X.op)∧W.cell? ⟨w.heap.size,2,none⟩=some (.int .i64 X.ac)∧W.cell? ⟨w.heap.size,3,none⟩=some (.slice X.A X.n X.c) from⟨Cells.cell (Cells.below B3.out hW) 0,Cells.cell (Cells.below B3.out hW) 1,Cells.cell (Cells.below B3.out hW) 2,Cells.cell (Cells.below B3.out hW) 3⟩)
 have M3:Hid (Below w3.heap.size w3 w3):=Below.refl _ _
 have N4:=Lib.hid (M3.out.drew)
 refine wp_region_held_drew (S:=fun W=>W.cell? ⟨w.heap.size,0,none⟩=some (.int .i64 X.cap)∧W.cell? ⟨w.heap.size,1,none⟩=some (.int .i64 X.op)∧W.cell? ⟨w.heap.size,2,none⟩=some (.int .i64 X.ac)∧W.cell? ⟨w.heap.size,3,none⟩=some (.slice X.A X.n X.c)) (by kernel_rfl) (HS _ N4.out) (fun hHeld=> ?_)
 generalize w3.drew=w4 at*
 refine Reg.tk 0 rfl ?_
 refine Reg.tk 1 rfl ?_
 refine Reg.step 2 rfl (by kernel_rfl) (by rfl) (fun K hK=> ?_)
 go_simp
 refine(vals_made ZA n zc w4).mono ?_
 rintro e w5 ⟨rfl,hw5⟩
 have N5:Hid (Below w3.heap.size w3 w5):=by rw[hw5];exact N4.out.alloc N4.out.size _
 have V5:Hid (Cells w5 w4.heap.size 34 #[.slice ZA n zc]):=by rw[hw5];exact Cells.new _ _ _
 clear hw5
 refine hK.out _ _ (HS _ N5.out) (fun hHeld=> ?_)
 clear hK K
 (try simp only[Act.put,List.setIfInBounds_toArray,List.set_cons_zero,List.set_cons_succ])
 have HSO:=Lib.hid (sorted_n HLL.out (HZ.out.below (L3.out.trans (N5.out.mono L3.out.size))) V5.out HLR.out hz1)
 refine Reg.step 3 rfl (by kernel_rfl) (by rfl) (fun K hK=> ?_)
 go_simp
 refine HSO.out.mono ?_
 rintro e w6 ⟨IA,IC,rfl,hO,hb⟩
 have O6:=Lib.hid hO
 have N6:=Lib.hid (N5.out.trans (hb.mono N5.out.size))
 clear hO hb HSO V5
 refine hK.out _ _ (HS _ N6.out) (fun hHeld=> ?_)
 clear hK K
 (try simp only[Act.put,List.setIfInBounds_toArray,List.set_cons_zero,List.set_cons_succ])
 have HCO:=Lib.hid (compact_n HLL.out (Wire.gave_row O6.out (by have:=HLL.out;omega)).1 HLR.out)
 refine Reg.step 4 rfl (by kernel_rfl) (by rfl) (fun K hK=> ?_)
 go_simp
 refine HCO.out.mono ?_
 rintro e w7 ⟨rfl,hb⟩
 have O7:=Lib.hid (Mem.Owns.below O6.out hb)
 have N7:=Lib.hid (N6.out.trans (hb.mono N6.out.size))
 clear hb HCO O6
 refine hK.out _ _ (HS _ N7.out) (fun hHeld=> ?_)
 clear hK K
 (try simp only[Act.put,List.setIfInBounds_toArray,List.set_cons_zero,List.set_cons_succ])
 refine Reg.step 5 rfl (by kernel_rfl) (by rfl) (fun K hK=> ?_)
 go_simp
 refine(HRM _ _ _ w7).out.mono ?_
 rintro e w8 ⟨rfl,hw8⟩
 have N8:Hid (Below w3.heap.size w3 w8):=by rw[hw8];exact(N7.out.alloc N7.out.size _).alloc (Nat.le_trans N7.out.size (by simp)) _
 have O8:Hid (OwnI w5.heap.size w8 IA n IC l):=by rw[hw8];exact Mem.Owns.alloc (Mem.Owns.alloc O7.out _) _
 have D8:Hid (Cells w8 w7.heap.size 26 #[.int .i64 X.cap,.int .i64 X.op,.int .i64 X.ac,.slice X.A X.n X.c]):=by rw[hw8];exact Cells.alloc (Cells.new _ _ _) _
 have Z8:Hid (Cells w8 (w7.heap.size+1) 34 #[.slice IA n IC]):=by
  rw[hw8]
  have:=Cells.new (w7.alloc (.cells #[.int .i64 X.cap,.int .i64 X.op,.int .i64 X.ac,.slice X.A X.n X.c] 26)) #[.slice IA n IC] 34
  rwa [World.size_alloc] at this
 clear hw8
 refine hK.out _ _ (HS _ N8.out) (fun hHeld=> ?_)
 clear hK K
 (try simp only[Act.put,List.setIfInBounds_toArray,List.set_cons_zero,List.set_cons_succ])
 have L8:=Lib.hid (L3.out.trans (N8.out.mono L3.out.size))
 have HMO:=Lib.hid (mapOf_any (src_of (zs:=zs) (S:= []) (T:= [30,125]) (base:=w5.heap.size) HD.out L8.out (by rw[HL.out,←HN.out];exact O8.out) HZN.out (by have:=HN.out;omega) (by rw[←HN.out];exact Z8.out) D8.out (by simp) (by simp) (by simp)) HG.out HF.out)
 refine Reg.step 6 rfl (by kernel_rfl) (by rfl) (fun K hK=> ?_)
 go_simp
 refine HMO.out.mono ?_
 rintro e w9 ⟨m,hof,⟨B,k,d,rfl,hO⟩,hb⟩
 have F9:=Lib.hid hof
 have O9:=Lib.hid (OwnsL.mono hO L8.out.size)
 have N9:=Lib.hid (N8.out.trans (hb.mono N8.out.size))
 clear hof hO hb
 refine hK.out _ _ (HS _ N9.out) (fun hHeld=> ?_)
 clear hK K
 (try simp only[Act.put,List.setIfInBounds_toArray,List.set_cons_zero,List.set_cons_succ])
 refine Reg.tk 7 rfl ?_
 refine Reg.tk 8 rfl ?_
 refine Reg.tk 9 rfl ?_
 refine Reg.tk 10 rfl ?_
 refine wpAnyH_done (by kernel_rfl) ?_ _
 clear hHeld
 go_wp2_with fail
 go_ret2
 exact⟨m,F9.out,⟨B,k,d,rfl,O9.out⟩,L3.out.trans (N9.out.mono L3.out.size)⟩
end Rp
end
section
open Go.RowKit Mem Box Zns
namespace Rp
open Vm (exR Offd)
open Ext (MayX Ok tell blk has rangeB RowL OwnsL atP)
abbrev Tb:=Int × Int × Int
def pick:Option Tb→Option Tb→Option Tb
 |a,none=>a
 |none,some t=>some t
 |some s,some t=>if s.1<t.1 then some t else some s
theorem trAll_append (fs:List Fd) (a b:List Nat):trAll fs (a++b)=trAll fs a++trAll fs b:=by unfold trAll;rw[List.flatMap_append]
theorem offd_len {l m:List Ext.Ex} (hm:∀x∈l,MayX x) (h:Offd l m) (hl:l.length≤40):m.length≤20000:=by
 obtain⟨r,hpm,hv,rfl⟩:=h
 have h2:=Vm.offd_may hm hpm
 have h3:=Vm.put_none_len h2.1
 rw[List.length_map,h2.2] at h3
 have h5:l.length*l.length≤40*40:=Nat.mul_le_mul (by omega) (by omega)
 omega
section
variable {n m:Nat} {L:Lg}
theorem tr_inj (h:LgOk n m L) {x y:Tr} (hx:x∈trAll (fsOf n L) (List.range n)) (hy:y∈trAll (fsOf n L) (List.range n)) (e:x.1.ver=y.1.ver):x=y:=by
 have h1:L.Pairwise fun a b=>a.2.ver≠b.2.ver:=h.rise.imp fun h=>by omega
 have h2:=((trAll_perm h).pairwise_iff (R:=fun a b:Nat × Seg.Rc=>a.2.ver≠b.2.ver) (fun {a b} q=>Ne.symm q)).2 h1
 have h3:=List.pairwise_map.1 h2
 obtain⟨i,hi,rfl⟩:=List.getElem_of_mem hx
 obtain⟨j,hj,rfl⟩:=List.getElem_of_mem hy
 rcases Nat.lt_trichotomy i j with q|rfl|q
 ·exact absurd e (List.pairwise_iff_getElem.1 h3 i j hi hj q)
 ·rfl
 ·exact absurd e.symm (List.pairwise_iff_getElem.1 h3 j i hj hi q)
theorem all_may (h:LgOk n m L) (hn:n≤4):∀x∈(trAll (fsOf n L) (List.range n)).map exT,MayX x:=fun x hx=>by
 obtain⟨t,ht,rfl⟩:=List.mem_map.1 hx
 exact((good_of h hn) t ht).may
theorem parts_tell (h:LgOk n m L) (hn:n≤4) {za zb:List Nat} (hz:List.range n=za++zb) {ma mb mc:List Ext.Ex} (h1:Offd ((trAll (fsOf n L) za).map exT) ma) (h2:Offd ((trAll (fsOf n L) zb).map exT) mb) (h3:Offd ((trAll (fsOf n L) (List.range n)).map exT) mc) {j:Int} (hj:0≤j):tell mc j=pick (tell ma j) (tell mb j):=by
 have hmay:=all_may h hn
 have hT:trAll (fsOf n L) (List.range n)=trAll (fsOf n L) za++trAll (fsOf n L) zb:=by rw[hz,trAll_append]
 have s1:∀x∈(trAll (fsOf n L) za).map exT,x∈(trAll (fsOf n L) (List.range n)).map exT:=fun x hx=>by rw[hT,List.map_append];exact List.mem_append_left _ hx
 have s2:∀x∈(trAll (fsOf n L) zb).map exT,x∈(trAll (fsOf n L) (List.range n)).map exT:=fun x hx=>by rw[hT,List.map_append];exact List.mem_append_right _ hx
 have s3:∀x∈(trAll (fsOf n L) (List.range n)).map exT,x∈(trAll (fsOf n L) za).map exT∨x∈(trAll (fsOf n L) zb).map exT:=fun x hx=>by rw[hT,List.map_append] at hx;exact List.mem_append.1 hx
 have hinj:∀x∈(trAll (fsOf n L) (List.range n)).map exT,∀y∈(trAll (fsOf n L) (List.range n)).map exT,x.ver=y.ver→x=y:=fun x hx y hy e=>by
  obtain⟨t,ht,rfl⟩:=List.mem_map.1 hx
  obtain⟨u,hu,rfl⟩:=List.mem_map.1 hy
  unfold exT at e
  rw[exR_ver,exR_ver] at e
  rw[tr_inj h ht hu e]
 rcases offd_tell (fun x hx=>hmay x (s1 x hx)) h1 hj with⟨e1,n1⟩|⟨x1,i1,c1,e1,g1⟩<;>
 rcases offd_tell (fun x hx=>hmay x (s2 x hx)) h2 hj with⟨e2,n2⟩|⟨x2,i2,c2,e2,g2⟩<;>
 rcases offd_tell hmay h3 hj with⟨e3,n3⟩|⟨x3,i3,c3,e3,g3⟩<;>rw[e1,e2,e3]
 ·rfl
 ·rcases s3 x3 i3 with q|q
  ·exact absurd c3 (n1 _ q)
  ·exact absurd c3 (n2 _ q)
 ·exact absurd c2 (n3 _ (s2 _ i2))
 ·rcases s3 x3 i3 with q|q
  ·exact absurd c3 (n1 _ q)
  ·have a1:=g2 _ q c3
   have a2:=g3 _ (s2 _ i2) c2
   rw[hinj _ i3 _ (s2 _ i2) (by omega)];rfl
 ·exact absurd c1 (n3 _ (s1 _ i1))
 ·rcases s3 x3 i3 with q|q
  ·have a1:=g1 _ q c3
   have a2:=g3 _ (s1 _ i1) c1
   rw[hinj _ i3 _ (s1 _ i1) (by omega)];rfl
  ·exact absurd c3 (n2 _ q)
 ·exact absurd c1 (n3 _ (s1 _ i1))
 ·have a1:=g3 _ (s1 _ i1) c1
  have a2:=g3 _ (s2 _ i2) c2
  show some (blk x3 j)=if x1.ver<x2.ver then some (blk x2 j) else some (blk x1 j)
  rcases s3 x3 i3 with q|q
  ·have a3:=g1 _ q c3
   rw[if_neg (by omega),hinj _ i3 _ (s1 _ i1) (by omega)]
  ·have a3:=g2 _ q c3
   by_cases e:x1.ver<x2.ver
   ·rw[if_pos e,hinj _ i3 _ (s2 _ i2) (by omega)]
   ·rw[if_neg e,hinj _ i3 _ (s1 _ i1) (by omega)]
end
def exO (j:Int):Option Tb→Ext.Ex
 |some t=>⟨j,1,t.1,t.2.1,t.2.2⟩
 |none=>⟨0,0,0,0,0⟩
theorem at_lba {l:List Ext.Ex} {a:Int} (hl:Ok 0 l) {x:Ext.Ex} (h:atP l a=some x):x.lba=a∧x.n=1:=by
 rcases hr:rangeB a 1
 ·rw[Ext.atP_bad hr] at h;cases h
 ·rw[Ext.atP_ok hr] at h
  have hok:Ok a (Ext.clips a (a+1) l):=Ext.ok_clips hl (by omega)
  have hen:=Ext.ends_clips a (a+1) l
  rcases e:Ext.clips a (a+1) l with _|⟨y,r⟩
  ·rw[e] at h;cases h
  ·rw[e] at h hok hen
   injection h with h
   subst h
   have hx:=Ext.en_lt hok.1
   have hx2:=hok.2.1
   have hx3:=hen y List.mem_cons_self
   unfold Ext.Ex.en at hx hx3
   omega
theorem at_full {l:List Ext.Ex} (hl:Ok 0 l) (a:Int):Ext.xvO (atP l a)=Ext.xv (exO a (tell l a))∧(atP l a).isSome=(tell l a).isSome:=by
 have h:=Ext.at_tell hl a
 rcases e:atP l a with _|x
 ·rw[e] at h
  rw[←h];exact⟨rfl,rfl⟩
 ·rw[e] at h
  obtain⟨h1,h2⟩:=at_lba hl e
  rw[←h]
  refine⟨?_,rfl⟩
  show Ext.xv x=Ext.xv ⟨a,1,x.ver,x.zone,x.off⟩
  rw[←h1,←h2]
theorem at_run {A:Option Addr} {n c:Nat} {l:List Ext.Ex} {w:World} (hA:RowL w A n c l) (hl:Ok 0 l) (hn:n≤20000) {j:Int} {t:Option Tb} (ht:tell l j=t):
  Calls Tryz.prog 19 #[.slice A n c,.int .i64 j] w fun e w'=>e= .returned (.tuple #[Ext.xv (exO j t),.bool t.isSome])∧Below w.heap.size w w':=by
 have h:=Ext.at_any hA hl (by omega) j
 rw[(at_full hl j).1,(at_full hl j).2,ht] at h
 exact h
section
variable {X:Dx} {n m:Nat} {L:Lg} {w:World}
structure PartOk (n:Nat) (L:Lg) (zs:List Nat) (mp:List Ext.Ex):Prop where
 ok:Ok 0 mp
 few:mp.length≤20000
 offd:Offd ((trAll (fsOf n L) zs).map exT) mp
theorem part_ok (hl:LgOk n m L) (hn:n≤4) (hm:m≤40) {zs:List Nat} (hs:∀x∈trAll (fsOf n L) zs,x∈trAll (fsOf n L) (List.range n)) (hlen:(trAll (fsOf n L) zs).length≤L.length) {mp:List Ext.Ex} (ho:Offd ((trAll (fsOf n L) zs).map exT) mp):PartOk n L zs mp:=by
 have hmay:∀x∈(trAll (fsOf n L) zs).map exT,MayX x:=fun x hx=>by
  obtain⟨t,ht,rfl⟩:=List.mem_map.1 hx
  exact all_may hl hn _ (List.mem_map.2 ⟨t,hs t ht,rfl⟩)
 exact⟨offd_ok hmay ho,offd_len hmay ho (by rw[List.length_map];have:=hl.few;omega),ho⟩
theorem all_run (hX:DevAt w X) (hp:X.p=dvOf n L) (hok:okD (dvOf n L)=true) (hn:n≤4) (hl:LgOk n m L) (hm:m≤40):
  Calls Tryz.prog 10 #[.agg #[.int .i64 X.cap,.int .i64 X.op,.int .i64 X.ac,.slice X.A X.n X.c],.slice none 0 0] w fun e w'=>∃(B:Option Addr) (q d:Nat) (mp:List Ext.Ex),e= .returned (.tuple #[.slice B q d,.int .i64 0])∧Hid (RowL w' B q d mp∧PartOk n L (List.range n) mp∧q≤20000)∧Below w.heap.size w w':=by
 have hD:=dev_of hl hn hX hp hok
 have hXn:X.n=n:=by rw[←hX.plen,hp];exact zsOf_len n L
 refine(map_all hD (by rw[hXn];exact good_of hl hn) (by rw[hXn,trAll_len hl];have:=hl.few;omega)).mono ?_
 rw[hXn]
 rintro e w' ⟨mp,hof,⟨B,q,d,rfl,hO⟩,hb⟩
 have hM:=part_ok hl hn hm (fun _ h=>h) (by rw[trAll_len hl];exact Nat.le_refl _) hof
 have hq:q=mp.length:=hO.2.symm
 exact⟨B,q,d,mp,rfl,⟨OwnsL.row hO (by have:=hM.few;omega),hM,by have:=hM.few;omega⟩,hb⟩
theorem part_run (hX:DevAt w X) (hp:X.p=dvOf n L) (hok:okD (dvOf n L)=true) (hn:n≤4) (hl:LgOk n m L) (hm:m≤40) {zs:List Nat} {ZA:Option Addr} {zc k:Nat} (hk:k=zs.length) (hz:Row ci w ZA k zc (zs.map fun(z:Nat)=>(z:Int))) (hzr:zs.Pairwise (· < ·)) (h0:0<k) (h1:k≤64) (hzn:∀z∈zs,z<n)
  (hs:∀x∈trAll (fsOf n L) zs,x∈trAll (fsOf n L) (List.range n)) (hlen:(trAll (fsOf n L) zs).length≤L.length):
  Calls Tryz.prog 10 #[.agg #[.int .i64 X.cap,.int .i64 X.op,.int .i64 X.ac,.slice X.A X.n X.c],.slice ZA k zc] w fun e w'=>∃(B:Option Addr) (q d:Nat) (mp:List Ext.Ex),e= .returned (.tuple #[.slice B q d,.int .i64 0])∧Hid (RowL w' B q d mp∧PartOk n L zs mp∧q≤20000)∧Below w.heap.size w w':=by
 have hD:=dev_of hl hn hX hp hok
 have hXn:X.n=n:=by rw[←hX.plen,hp];exact zsOf_len n L
 refine(map_zones hD hk hz hzr h0 h1 (by rw[hXn];exact hzn) (fun x hx=>good_of hl hn x (hs x hx)) (by have:=hl.few;omega)).mono ?_
 rintro e w' ⟨mp,hof,⟨B,q,d,rfl,hO⟩,hb⟩
 have hM:=part_ok hl hn hm hs hlen hof
 have hq:q=mp.length:=hO.2.symm
 exact⟨B,q,d,mp,rfl,⟨OwnsL.row hO (by have:=hM.few;omega),hM,by have:=hM.few;omega⟩,hb⟩
end
def hiZ (k b:Nat):List Nat:=(List.range b).map (k+ ·)
def hiI (k b:Nat):List Int:=(hiZ k b).map fun(z:Nat)=>(z:Int)
theorem hiI_succ (k b:Nat):hiI k (b+1)=hiI k b++ [((k+b:Nat):Int)]:=by unfold hiI hiZ;rw[List.range_succ,List.map_append,List.map_append];rfl
theorem hiZ_len (k b:Nat):(hiZ k b).length=b:=by simp[hiZ]
theorem hiZ_rise (k b:Nat):(hiZ k b).Pairwise (· < ·):=by
 unfold hiZ
 rw[List.pairwise_map]
 exact List.pairwise_lt_range.imp fun h=>by omega
theorem hiZ_lt {k b z:Nat} (h:z∈hiZ k b):z<k+b:=by
 obtain⟨i,hi,rfl⟩:=List.mem_map.1 h
 have:=List.mem_range.1 hi
 omega
theorem range_parts (k b:Nat):List.range (k+b)=List.range k++hiZ k b:=List.range_add ..
end Rp
end
section
open Go.ChangeShapes Go.WideShapes Go.ChangeAt Go.RowKit Mem Box
namespace Args
open Rp
variable {H:Type} {enc:TypeId × Value→H} {W:World}
theorem raw_write {fuel:Nat} {cs:List Value} {x:DataW H × List MemPlace} (hf:DataW.trod enc Tryz.prog W 0 (fun _=>true) true fuel 44 cs=some x) (hl:cs.length=5):
  ∃v:Wr,cs=cellsW v∧True:=by
 have hu:=Tryz.underlying44
 match cs,hl with
 | [c0,c1,c2,c3,c4],_=>
   obtain⟨xs,n,_,hx,_,hlen,hg⟩:=DataW.trod_struct hu hf
   have hxl:xs.length=5:=hlen
   match xs,hxl with
   | [y0,y1,y2,y3,y4],_=>
     have o3:Tryz.prog.cellsOf 3=1:=by kernel_rfl
     have o4:Tryz.prog.cellsOf 4=1:=by kernel_rfl
     have o5:Tryz.prog.cellsOf 5=1:=by kernel_rfl
     have g0:=hg 0 _ rfl
     have g1:=hg 1 _ rfl
     have g2:=hg 2 _ rfl
     have g3:=hg 3 _ rfl
     have g4:=hg 4 _ rfl
     simp[o3,o4,o5] at g0 g1 g2 g3 g4
     obtain⟨z,hz1,-,wz⟩:=DataW.trod_int Tryz.underlying3 g0
     obtain⟨l,hl1,-,wl⟩:=DataW.trod_int Tryz.underlying3 g1
     obtain⟨k,hk1,-,wk⟩:=DataW.trod_int Tryz.underlying3 g2
     obtain⟨b,hb1,-,wb⟩:=DataW.trod_int Tryz.underlying5 g3
     obtain⟨t,ht1,-⟩:=DataW.trod_bool Tryz.underlying4 g4
     simp only[List.cons.injEq,and_true] at hz1 hl1 hk1 hb1 ht1
     subst hz1 hl1 hk1 hb1 ht1
     have hb2:0≤b∧b≤255:=by
      simp[Lit.wf,IntKind.min,IntKind.max,IntKind.signed,IntKind.bits] at wb
      omega
     refine⟨⟨z,l,k,BitVec.ofNat 8 b.toNat,t⟩,?_,trivial⟩
     have e:cb (BitVec.ofNat 8 b.toNat)= .int .u8 b:=by
      show Value.int .u8 (((BitVec.ofNat 8 b.toNat).toNat:Nat):Int)= .int .u8 b
      congr 1
      rw[BitVec.toNat_ofNat]
      omega
     show _= [_,_,_,cb (BitVec.ofNat 8 b.toNat),_]
     rw[e]
theorem open_writes {v:Value} {d:DataW H} {p:List MemPlace} {base:Nat} (hok:Value.okWide Tryz.prog W .any base 22 v) (h:DataW.Trod enc Tryz.prog W 0 (fun _=>true) true 22 v d p)
  (hs:∀q∈d.weights Tryz.prog 22,q≤reachBytes):∃A n c xs,v= .slice A n c∧RowS cellsW 5 W A n c xs:=by
 obtain⟨A,n,c,xs,h1,h2,-⟩:=open_rowS (cells:=cellsW) (k:=5) (bytes:=32) (p:=fun _=>True) Tryz.underlying22 (by kernel_rfl) (by kernel_rfl) (by omega) (by omega) (fun _ _ _ hf hl _=>raw_write hf hl) hok h hs
 exact⟨A,n,c,xs,h1,h2⟩
end Args
end
section
open Go.RowKit Mem Box Zns
namespace Rp
open Zon (Zn Zv B8)
open Ext (RowL Ok tell)
structure Two (w wr:World) (k a b:Nat) (F S:Option Addr) (c d:Nat):Prop where
 le:a≤k
 or_:(b=0∧S=none∧d=0)∨a=k
 mid:∃W,Below w.heap.size w W∧OwnI w.heap.size W F a c (iota a)∧Below W.heap.size W wr∧OwnI W.heap.size wr S b d (hiI k b)
theorem Two.below {w wr:World} {k a b:Nat} {F S:Option Addr} {c d:Nat} (h:Two w wr k a b F S c d):Below w.heap.size w wr:=by
 obtain⟨W,h1,-,h3,-⟩:=h.mid
 exact h1.trans (h3.mono h1.size)
theorem Two.fst {w wr:World} {k a b:Nat} {F S:Option Addr} {c d:Nat} (h:Two w wr k a b F S c d):OwnI w.heap.size wr F a c (iota a):=by
 obtain⟨W,h1,h2,h3,-⟩:=h.mid
 exact Mem.Owns.below h2 h3
theorem Two.snd {w wr:World} {k a b:Nat} {F S:Option Addr} {c d:Nat} (h:Two w wr k a b F S c d):OwnI w.heap.size wr S b d (hiI k b):=by
 obtain⟨W,h1,-,-,h4⟩:=h.mid
 exact Mem.Owns.mono h4 h1.size
theorem parts_walk {A:Option Addr} {m c:Nat} {ls:List Wr} {w:World} (h:RowS cellsW 5 w A m c ls) (zones kk:Int):
  Calls Tryz.prog 5 #[.slice A m c,.int .i64 zones,.int .i64 kk] w fun e w'=>e= .returned (.bool true)∧Below w.heap.size w w':=by
 have HLV:=Lib.hid (live_any w)
 have HH:=Lib.hid h
 have hmb:=h.big
 clear h
 by_cases hm:(40:Int)<(m:Int)
 ·go_enter Tryz.func5,Tryz.ntmps5
  go_wp2_with (go_at_call 8;refine HLV.out.mono ?_;rintro e w1 ⟨rfl,hb⟩;have L1:=Lib.hid hb;clear hb)
  go_ret
  exact⟨rfl,L1.out⟩
 ·obtain⟨r1,j1,k1,k2,k3,k4,k5,k6⟩:∃(r:Int) (j:Nat),Int.tmod zones 3=r∧ -3<r∧r<3∧Int.tmod (r+3) 3=j∧(r+3)%3=j∧j<3:=Cut.cut_at zones 3 (by omega)
  obtain⟨n,hn⟩:∃n:Nat,(2:Int)+(j1:Int)=(n:Int):=⟨2+j1,by omega⟩
  have hn2:2≤n:=by omega
  have hn4:n≤4:=by omega
  have hm40:m≤40:=by omega
  have HRUN:=fun W (hW:Below w.heap.size w W)=>Lib.hid (run_any (HH.out.below hW) hm40 (by omega:1≤n) hn4)
  go_enter Tryz.func5,Tryz.ntmps5
  go_upto_region 8 with(first
   |(go_at_call 8;refine HLV.out.mono ?_;rintro e w1 ⟨rfl,hb⟩;have L1:=Lib.hid hb;clear hb)
   |(go_at_call 9;refine(HRUN w1 L1.out).out.mono ?_;rintro e w2 ⟨X,L,mb,ws,rfl,hR⟩;have L2:=Lib.hid (L1.out.trans (hR.out.bel.mono L1.out.size))))
  clear k1 k2 k3 k4 k5 k6 hn HRUN HLV
  have bb:Below w2.heap.size w2 (w2.alloc (.cells #[.int .i64 X.cap,.int .i64 X.op,.int .i64 X.ac,.slice X.A X.n X.c] 26)):=(Below.refl _ w2).alloc (Nat.le_refl _) _
  have L3:=Lib.hid (L2.out.trans (bb.mono L2.out.size))
  have C3:Hid (Cells (w2.alloc (.cells #[.int .i64 X.cap,.int .i64 X.op,.int .i64 X.ac,.slice X.A X.n X.c] 26)) w2.heap.size 26 #[.int .i64 X.cap,.int .i64 X.op,.int .i64 X.ac,.slice X.A X.n X.c]):=Cells.new _ _ _
  have D3:Hid (DevAt (w2.alloc (.cells #[.int .i64 X.cap,.int .i64 X.op,.int .i64 X.ac,.slice X.A X.n X.c] 26)) X):=hR.out.dev.below bb
  have HPX:=Lib.hid hR.out.px
  have HOK:=Lib.hid hR.out.ok
  have HLG:=Lib.hid hR.out.lg
  generalize w2.alloc (.cells #[.int .i64 X.cap,.int .i64 X.op,.int .i64 X.ac,.slice X.A X.n X.c] 26)=w3 at*
  generalize w2.heap.size=dg at*
  clear bb hR L2
  obtain⟨p,hp⟩:∃p:Nat,(n:Int)-1=(p:Int):=⟨n-1,by omega⟩
  have hp0:¬p=0:=by omega
  obtain⟨r2,j2,b1,b2,b3,b4,b5,b6⟩:=Cut.cut_at kk p (by omega)
  have b7:Int.tmod (r2+(n:Int)-1) (p:Int)=(j2:Int):=by rw[←b4];congr 1;omega
  obtain⟨k,hk⟩:∃k:Nat,(1:Int)+(j2:Int)=(k:Int):=⟨1+j2,by omega⟩
  have hk1:1≤k:=by omega
  have hkn:k<n:=by omega
  have hnb:n≤4:=hn4
  go_upto_region 11 with fail
  clear b1 b2 b3 b4 b5 b6 b7 hp hk hp0
  have T0:Hid (Two w3 w3 k 0 0 none none 0 0):=⟨by omega,.inl ⟨rfl,rfl,rfl⟩,w3,Below.refl _ _,Mem.Owns.nil _ _ _ _,Below.refl _ _,Mem.Owns.nil _ _ _ _⟩
  go_wp2_with fail
  go_loopw [11,12,13,58] (fun s t _ i wr=>∃(a b c d:Nat) (F S:Option Addr) (z:Nat),z=a+b∧s= .slice F a c∧t= .slice S b d∧i= .int .i64 z∧z≤n∧Hid (Two w3 wr k a b F S c d)) (fun _ _ _ i _=>n-(intOf i).toNat)
  case atStart=>exact⟨0,0,0,0,none,none,0,rfl,rfl,rfl,rfl,by omega,T0⟩
  case round=>
   clear T0
   obtain⟨a,b,c,d,F,S,z,hz,rfl,rfl,rfl,hzn,hT⟩:=hrel
   have HZ:=Lib.hid hz
   have hb64:b≤4:=by omega
   have ha64:a≤4:=by omega
   clear hz
   by_cases hlt:z<n
   ·have hz1:(z:Int)<(n:Int):=by omega
    by_cases hzk:z<k
    ·have hz2:(z:Int)<(k:Int):=by omega
     have hT2:Hid (b=0∧S=none∧d=0∧z=a):=by
      have h1:=HZ.out
      rcases hT.out.or_ with⟨q1,q2,q3⟩|q
      ·exact⟨q1,q2,q3,by omega⟩
      ·exact absurd hzk (by omega)
     have A5:Hid (Below w3.heap.size w3 (wr.alloc (.cells #[.int .i64 (z:Int)] 3))):=hT.out.below.alloc hT.out.below.size _
     go_wp2_with (at_builtin
                  refine wpList_append_row ci_one Tryz.underlying34 info_int rfl rfl (.tmp 64) (.tmp 66) rfl rfl w3.heap.size (.slice F a c) a _ rfl (Mem.Owns.alloc hT.out.fst _) _ 1 1 [(z:Int)] rfl (row_int wr z) (by omega) (by omega) A5.out.size ?_
                  intro A' c' w' h1 h2
                  have O6:=Lib.hid h1
                  have A6:=Lib.hid (A5.out.trans h2)
                  clear h1 h2)
     go_roundw
     case rel=>
      obtain⟨q1,q2,q3,q4⟩:=hT2.out
      refine⟨a+1,b,c',d,A',S,z+1,by omega,rfl,rfl,by go_num,by omega,⟨by omega,.inl ⟨q1,q2,q3⟩,w',A6.out,by rw[iota_succ,show((a:Nat):Int)=(z:Int) from by omega];exact O6.out,Below.refl _ _,?_⟩⟩
      rw[q1,q2,q3];exact Mem.Owns.nil _ _ _ _
     case measure=>simp[intOf];omega
    ·have hz2:¬(z:Int)<(k:Int):=by omega
     have hak:Hid (a=k):=by
      have h1:=HZ.out
      have h2:=hT.out.le
      rcases hT.out.or_ with⟨q1,q2,q3⟩|q
      ·show a=k;omega
      ·exact q
     obtain⟨W,g1,g2,g3,g4⟩:=hT.out.mid
     have G1:=Lib.hid (And.intro g1 g2)
     have G4:=Lib.hid g4
     have A5:Hid (Below W.heap.size W (wr.alloc (.cells #[.int .i64 (z:Int)] 3))):=g3.alloc g3.size _
     clear g1 g2 g3 g4
     go_wp2_with (at_builtin
                  refine wpList_append_row ci_one Tryz.underlying34 info_int rfl rfl (.tmp 68) (.tmp 70) rfl rfl W.heap.size (.slice S b d) b _ rfl (Mem.Owns.alloc G4.out _) _ 1 1 [(z:Int)] rfl (row_int wr z) (by omega) (by omega) A5.out.size ?_
                  intro A' c' w' h1 h2
                  have O6:=Lib.hid h1
                  have A6:=Lib.hid (A5.out.trans h2)
                  clear h1 h2)
     go_roundw
     case rel=>
      have h1:=HZ.out
      have h2:=hak.out
      refine⟨a,b+1,c,c',F,A',z+1,by omega,rfl,rfl,by go_num,by omega,⟨hT.out.le,.inr h2,W,G1.out.1,G1.out.2,A6.out,?_⟩⟩
      rw[hiI_succ,show k+b=z by omega];exact O6.out
     case measure=>simp[intOf];omega
   ·have hz1:¬(z:Int)<(n:Int):=by omega
    have hT2:Hid (a=k∧k+b=n∧0<b):=by
     have h1:=HZ.out
     have h2:=hT.out.le
     show _∧_∧_
     rcases hT.out.or_ with⟨q1,-,-⟩|q
     ·omega
     ·omega
    obtain rfl:a=k:=hT2.out.1
    have K4:=Lib.hid hT.out.below
    have HF:=Lib.hid (Wire.gave_row hT.out.fst (by rw[iota_len];omega)).1
    have HS:=Lib.hid (Wire.gave_row hT.out.snd (by have:=hiZ_len a b;unfold hiI;rw[List.length_map];omega)).1
    have C4:=Lib.hid (Cells.below C3.out hT.out.below)
    have D4:=Lib.hid (D3.out.below hT.out.below)
    have L4:=Lib.hid (L3.out.trans (K4.out.mono L3.out.size))
    have hb0:0<b:=hT2.out.2.2
    have ha0:0<a:=by omega
    clear hT C3 D3 L3 K4
    have hsum:=trAll_append (fsOf n L) (List.range a) (hiZ a b)
    rw[←range_parts,hT2.out.2.1] at hsum
    have hsl:=congrArg List.length hsum
    rw[trAll_len HLG.out,List.length_append] at hsl
    have HPA:=fun W (hW:Below wr.heap.size wr W)=>Lib.hid (part_run (zs:=List.range a) (D4.out.below hW) HPX.out HOK.out hn4 HLG.out hm40 (by rw[List.length_range]) (HF.out.below hW) List.pairwise_lt_range ha0 (by omega) (fun z hz=>by have:=List.mem_range.1 hz;omega) (fun x hx=>by rw[hsum];exact List.mem_append_left _ hx) (by omega))
    have HPB:=fun W (hW:Below wr.heap.size wr W)=>Lib.hid (part_run (zs:=hiZ a b) (D4.out.below hW) HPX.out HOK.out hn4 HLG.out hm40 (by rw[hiZ_len]) (HS.out.below hW) (hiZ_rise a b) hb0 (by omega) (fun z hz=>by have:=hiZ_lt hz;have:=hT2.out.2.1;omega) (fun x hx=>by rw[hsum];exact List.mem_append_right _ hx) (by omega))
    have HPC:=fun W (hW:Below wr.heap.size wr W)=>Lib.hid (all_run (D4.out.below hW) HPX.out HOK.out hn4 HLG.out hm40)
    have K0:Hid (Below wr.heap.size wr wr):=Below.refl _ _
    clear hsum hsl
    have m0:=Cells.cell C4.out 0
    have m1:=Cells.cell C4.out 1
    have m2:=Cells.cell C4.out 2
    have m3:=Cells.cell C4.out 3
    go_upto_region 19 with(go_at_call 10;refine(HPA wr K0.out).out.mono ?_;rintro e w5 ⟨MA,qa,ca,ma,rfl,hM,hb⟩;have K5:=Lib.hid hb;have M5:=Lib.hid hM.out;clear hb hM)
    clear m0 m1 m2 m3 HPA
    have C5:=Lib.hid (Cells.below C4.out K5.out)
    have m0:=Cells.cell C5.out 0
    have m1:=Cells.cell C5.out 1
    have m2:=Cells.cell C5.out 2
    have m3:=Cells.cell C5.out 3
    go_upto_region 20 with(go_at_call 10;refine(HPB w5 K5.out).out.mono ?_;rintro e w6 ⟨MB,qb,cb,mb2,rfl,hM,hb⟩;have K6:=Lib.hid (K5.out.trans (hb.mono K5.out.size));have B6:=Lib.hid hb;have M6:=Lib.hid hM.out;clear hb hM)
    clear m0 m1 m2 m3 HPB C5
    have C6:=Lib.hid (Cells.below C4.out K6.out)
    have m0:=Cells.cell C6.out 0
    have m1:=Cells.cell C6.out 1
    have m2:=Cells.cell C6.out 2
    have m3:=Cells.cell C6.out 3
    go_upto_region 21 with(go_at_call 10;refine(HPC w6 K6.out).out.mono ?_;rintro e w7 ⟨MC,qc,cc,mc,rfl,hM,hb⟩;have K7:=Lib.hid (K6.out.trans (hb.mono K6.out.size));have B7:=Lib.hid hb;have M7:=Lib.hid hM.out;clear hb hM)
    clear m0 m1 m2 m3 HPC C6
    have R5:=Lib.hid (M5.out.1.below (B6.out.trans (B7.out.mono B6.out.size)))
    have R6:=Lib.hid (M6.out.1.below B7.out)
    have R7:=Lib.hid M7.out.1
    have HTE:=fun(j:Int) (hj:0≤j)=>Lib.hid (parts_tell HLG.out hn4 (za:=List.range a) (zb:=hiZ a b) (by rw[←range_parts,hT2.out.2.1]) M5.out.2.1.offd M6.out.2.1.offd M7.out.2.1.offd hj)
    have HA1:=fun W (hW:Below w7.heap.size w7 W) (j:Int) (t:Option Tb) (ht:tell ma j=t)=>Lib.hid (at_run (R5.out.below hW) M5.out.2.1.ok M5.out.2.2 ht)
    have HA2:=fun W (hW:Below w7.heap.size w7 W) (j:Int) (t:Option Tb) (ht:tell mb2 j=t)=>Lib.hid (at_run (R6.out.below hW) M6.out.2.1.ok M6.out.2.2 ht)
    have HA3:=fun W (hW:Below w7.heap.size w7 W) (j:Int) (t:Option Tb) (ht:tell mc j=t)=>Lib.hid (at_run (R7.out.below hW) M7.out.2.1.ok M7.out.2.2 ht)
    have L7:=Lib.hid (L4.out.trans (K7.out.mono L4.out.size))
    clear K0 K5 K6 B6 B7 C4 D4 HF HS L4 hlt hz1
    go_wp2_with fail
    go_loopw [20,21,22,23,24,25,26,100] (fun _ _ _ _ _ _ _ i wr=>∃j:Nat,i= .int .i64 j∧j≤60∧Hid (Below w7.heap.size w7 wr)) (fun _ _ _ _ _ _ _ i _=>60-(intOf i).toNat)
    case atStart=>exact⟨0,rfl,by omega,Below.refl _ _⟩
    case round=>
     obtain⟨j,rfl,hj,hI⟩:=hrel
     by_cases hjl:j<60
     ·have hj1:(j:Int)<60:=by omega
      have HT:=HTE (j:Int) (by omega)
      rcases e1:tell ma (j:Int) with _|⟨v1,z1,o1⟩<;>rcases e2:tell mb2 (j:Int) with _|⟨v2,z2,o2⟩
      ·have HR3:Hid (tell mc (j:Int)=none):=by
         show _=_
         rw[HT.out,e1,e2]
         rfl
       have Q1:=HA1 wr hI.out (j:Int) none e1
       have Q2:=fun W hW=>HA2 W hW (j:Int) none e2
       have Q3:=fun W hW=>HA3 W hW (j:Int) none HR3.out
       have HNE:=fun(W:World)=>Ext.ext_neq (exO (j:Int) none) W
       unfold Ext.xv exO at Q1
       unfold Ext.xv exO at Q2
       unfold Ext.xv exO at Q3
       unfold Ext.xv exO at HNE
       dsimp only[Option.isSome] at Q1 Q2 Q3 HNE
       clear e1 e2 HT HR3
       have HG:= @Ext.ext_guard
       go_upto_region 27 with(go_at_call 19;refine Q1.out.mono ?_;rintro e w8 ⟨rfl,hb⟩;have I8:=Lib.hid (hI.out.trans (hb.mono hI.out.size));clear hb)
       have I9:=Lib.hid (I8.out.alloc I8.out.size (.cells #[.int .i64 0,.int .i64 0,.int .i64 0,.int .i64 0,.int .i64 0] 60))
       have HXG:Hid (w7.heap.size≤w8.heap.size):=I8.out.size
       have X9:Hid (Cells (w8.alloc (.cells #[.int .i64 0,.int .i64 0,.int .i64 0,.int .i64 0,.int .i64 0] 60)) w8.heap.size 60 #[.int .i64 0,.int .i64 0,.int .i64 0,.int .i64 0,.int .i64 0]):=Cells.new _ _ _
       generalize w8.alloc (.cells #[.int .i64 0,.int .i64 0,.int .i64 0,.int .i64 0,.int .i64 0] 60)=w9 at*
       generalize w8.heap.size=xg at*
       have Q2:=Q2 w9 I9.out
       clear Q1 I8
       go_upto_region 28 with(go_at_call 19;refine Q2.out.mono ?_;rintro e w10 ⟨rfl,hb⟩;have I10:=Lib.hid (I9.out.trans (hb.mono I9.out.size));have X10:=Lib.hid (Cells.below X9.out hb);clear hb)
       have I11:=Lib.hid (I10.out.alloc I10.out.size (.cells #[.int .i64 0,.int .i64 0,.int .i64 0,.int .i64 0,.int .i64 0] 60))
       have X11:Hid (Cells (w10.alloc (.cells #[.int .i64 0,.int .i64 0,.int .i64 0,.int .i64 0,.int .i64 0] 60)) xg 60 #[.int .i64 0,.int .i64 0,.int .i64 0,.int .i64 0,.int .i64 0]):=Cells.alloc X10.out _
       have Y11:Hid (Cells (w10.alloc (.cells #[.int .i64 0,.int .i64 0,.int .i64 0,.int .i64 0,.int .i64 0] 60)) w10.heap.size 60 #[.int .i64 0,.int .i64 0,.int .i64 0,.int .i64 0,.int .i64 0]):=Cells.new _ _ _
       have hxy:Hid (w7.heap.size≤xg∧xg<w10.heap.size):=⟨HXG.out,X10.out.lt⟩
       generalize w10.alloc (.cells #[.int .i64 0,.int .i64 0,.int .i64 0,.int .i64 0,.int .i64 0] 60)=w11 at*
       generalize w10.heap.size=yg at*
       clear Q2 I9 X9 I10 X10
       go_upto_region 31 with fail
       have Q3:=Q3 w11 I11.out
       go_upto_region 32 with(go_at_call 19;refine Q3.out.mono ?_;rintro e w13 ⟨rfl,hb⟩;have I13:=Lib.hid (I11.out.trans (hb.mono I11.out.size));have X13:=Lib.hid (Cells.below X11.out hb);clear hb)
       have I14:=Lib.hid (I13.out.alloc I13.out.size (.cells #[.int .i64 0,.int .i64 0,.int .i64 0,.int .i64 0,.int .i64 0] 60))
       have X14:Hid (Cells (w13.alloc (.cells #[.int .i64 0,.int .i64 0,.int .i64 0,.int .i64 0,.int .i64 0] 60)) xg 60 #[.int .i64 0,.int .i64 0,.int .i64 0,.int .i64 0,.int .i64 0]):=Cells.alloc X13.out _
       have Z14:Hid (Cells (w13.alloc (.cells #[.int .i64 0,.int .i64 0,.int .i64 0,.int .i64 0,.int .i64 0] 60)) w13.heap.size 60 #[.int .i64 0,.int .i64 0,.int .i64 0,.int .i64 0,.int .i64 0]):=Cells.new _ _ _
       generalize w13.alloc (.cells #[.int .i64 0,.int .i64 0,.int .i64 0,.int .i64 0,.int .i64 0] 60)=w14 at*
       generalize w13.heap.size=zg at*
       clear Q3 X13 I13 hxy
       have x0:=Cells.cell X14.out 0
       have z0:=Cells.cell Z14.out 0
       have x1:=Cells.cell X14.out 1
       have z1:=Cells.cell Z14.out 1
       have x2:=Cells.cell X14.out 2
       have z2:=Cells.cell Z14.out 2
       have x3:=Cells.cell X14.out 3
       have z3:=Cells.cell Z14.out 3
       have x4:=Cells.cell X14.out 4
       have z4:=Cells.cell Z14.out 4
       go_wp2_with fail
       go_roundw
       case rel=>exact⟨j+1,by go_num,by omega,I14.out⟩
       case measure=>simp[intOf];omega
      ·have HR3:Hid (tell mc (j:Int)=(some (v2,z2,o2))):=by
         show _=_
         rw[HT.out,e1,e2]
         rfl
       have Q1:=HA1 wr hI.out (j:Int) none e1
       have Q2:=fun W hW=>HA2 W hW (j:Int) (some (v2,z2,o2)) e2
       have Q3:=fun W hW=>HA3 W hW (j:Int) (some (v2,z2,o2)) HR3.out
       have HNE:=fun(W:World)=>Ext.ext_neq (exO (j:Int) (some (v2,z2,o2))) W
       unfold Ext.xv exO at Q1
       unfold Ext.xv exO at Q2
       unfold Ext.xv exO at Q3
       unfold Ext.xv exO at HNE
       dsimp only[Option.isSome] at Q1 Q2 Q3 HNE
       clear e1 e2 HT HR3
       have HG:= @Ext.ext_guard
       go_upto_region 27 with(go_at_call 19;refine Q1.out.mono ?_;rintro e w8 ⟨rfl,hb⟩;have I8:=Lib.hid (hI.out.trans (hb.mono hI.out.size));clear hb)
       have I9:=Lib.hid (I8.out.alloc I8.out.size (.cells #[.int .i64 0,.int .i64 0,.int .i64 0,.int .i64 0,.int .i64 0] 60))
       have HXG:Hid (w7.heap.size≤w8.heap.size):=I8.out.size
       have X9:Hid (Cells (w8.alloc (.cells #[.int .i64 0,.int .i64 0,.int .i64 0,.int .i64 0,.int .i64 0] 60)) w8.heap.size 60 #[.int .i64 0,.int .i64 0,.int .i64 0,.int .i64 0,.int .i64 0]):=Cells.new _ _ _
       generalize w8.alloc (.cells #[.int .i64 0,.int .i64 0,.int .i64 0,.int .i64 0,.int .i64 0] 60)=w9 at*
       generalize w8.heap.size=xg at*
       have Q2:=Q2 w9 I9.out
       clear Q1 I8
       go_upto_region 28 with(go_at_call 19;refine Q2.out.mono ?_;rintro e w10 ⟨rfl,hb⟩;have I10:=Lib.hid (I9.out.trans (hb.mono I9.out.size));have X10:=Lib.hid (Cells.below X9.out hb);clear hb)
       have I11:=Lib.hid (I10.out.alloc I10.out.size (.cells #[.int .i64 (j:Int),.int .i64 1,.int .i64 v2,.int .i64 z2,.int .i64 o2] 60))
       have X11:Hid (Cells (w10.alloc (.cells #[.int .i64 (j:Int),.int .i64 1,.int .i64 v2,.int .i64 z2,.int .i64 o2] 60)) xg 60 #[.int .i64 0,.int .i64 0,.int .i64 0,.int .i64 0,.int .i64 0]):=Cells.alloc X10.out _
       have Y11:Hid (Cells (w10.alloc (.cells #[.int .i64 (j:Int),.int .i64 1,.int .i64 v2,.int .i64 z2,.int .i64 o2] 60)) w10.heap.size 60 #[.int .i64 (j:Int),.int .i64 1,.int .i64 v2,.int .i64 z2,.int .i64 o2]):=Cells.new _ _ _
       have hxy:Hid (w7.heap.size≤xg∧xg<w10.heap.size):=⟨HXG.out,X10.out.lt⟩
       generalize w10.alloc (.cells #[.int .i64 (j:Int),.int .i64 1,.int .i64 v2,.int .i64 z2,.int .i64 o2] 60)=w11 at*
       generalize w10.heap.size=yg at*
       clear Q2 I9 X9 I10 X10
       go_upto_region 29 with fail
       have y0:=Cells.cell Y11.out 0
       have x0:=Cells.cell X11.out 0
       have f0:=Cells.frozen X11.out 0
       have y1:=Cells.cell Y11.out 1
       have x1:=Cells.cell X11.out 1
       have f1:=Cells.frozen X11.out 1
       have y2:=Cells.cell Y11.out 2
       have x2:=Cells.cell X11.out 2
       have f2:=Cells.frozen X11.out 2
       have y3:=Cells.cell Y11.out 3
       have x3:=Cells.cell X11.out 3
       have f3:=Cells.frozen X11.out 3
       have y4:=Cells.cell Y11.out 4
       have x4:=Cells.cell X11.out 4
       have f4:=Cells.frozen X11.out 4
       go_upto_region 30 with fail
       have X12:Hid (Cells (((((w11.setCell ⟨xg,0,none⟩ (.int .i64 (j:Int))).setCell ⟨xg,1,none⟩ (.int .i64 1)).setCell ⟨xg,2,none⟩ (.int .i64 v2)).setCell ⟨xg,3,none⟩ (.int .i64 z2)).setCell ⟨xg,4,none⟩ (.int .i64 o2)) xg 60 #[.int .i64 (j:Int),.int .i64 1,.int .i64 v2,.int .i64 z2,.int .i64 o2]):=Ext.Cells.set5 X11.out _ _ _ _ _
       have I12:Hid (Below w7.heap.size w7 (((((w11.setCell ⟨xg,0,none⟩ (.int .i64 (j:Int))).setCell ⟨xg,1,none⟩ (.int .i64 1)).setCell ⟨xg,2,none⟩ (.int .i64 v2)).setCell ⟨xg,3,none⟩ (.int .i64 z2)).setCell ⟨xg,4,none⟩ (.int .i64 o2))):=Ext.below5 I11.out hxy.out.1 _ _ _ _ _ _ _ _ _ _
       generalize(((((w11.setCell ⟨xg,0,none⟩ (.int .i64 (j:Int))).setCell ⟨xg,1,none⟩ (.int .i64 1)).setCell ⟨xg,2,none⟩ (.int .i64 v2)).setCell ⟨xg,3,none⟩ (.int .i64 z2)).setCell ⟨xg,4,none⟩ (.int .i64 o2))=w12 at*
       clear X11 I11 Y11 x0 y0 f0 x1 y1 f1 x2 y2 f2 x3 y3 f3 x4 y4 f4
       go_upto_region 31 with fail
       have Q3:=Q3 w12 I12.out
       go_upto_region 32 with(go_at_call 19;refine Q3.out.mono ?_;rintro e w13 ⟨rfl,hb⟩;have I13:=Lib.hid (I12.out.trans (hb.mono I12.out.size));have X13:=Lib.hid (Cells.below X12.out hb);clear hb)
       have I14:=Lib.hid (I13.out.alloc I13.out.size (.cells #[.int .i64 (j:Int),.int .i64 1,.int .i64 v2,.int .i64 z2,.int .i64 o2] 60))
       have X14:Hid (Cells (w13.alloc (.cells #[.int .i64 (j:Int),.int .i64 1,.int .i64 v2,.int .i64 z2,.int .i64 o2] 60)) xg 60 #[.int .i64 (j:Int),.int .i64 1,.int .i64 v2,.int .i64 z2,.int .i64 o2]):=Cells.alloc X13.out _
       have Z14:Hid (Cells (w13.alloc (.cells #[.int .i64 (j:Int),.int .i64 1,.int .i64 v2,.int .i64 z2,.int .i64 o2] 60)) w13.heap.size 60 #[.int .i64 (j:Int),.int .i64 1,.int .i64 v2,.int .i64 z2,.int .i64 o2]):=Cells.new _ _ _
       generalize w13.alloc (.cells #[.int .i64 (j:Int),.int .i64 1,.int .i64 v2,.int .i64 z2,.int .i64 o2] 60)=w14 at*
       generalize w13.heap.size=zg at*
       clear Q3 X13 I13 hxy
       have x0:=Cells.cell X14.out 0
       have z0:=Cells.cell Z14.out 0
       have x1:=Cells.cell X14.out 1
       have z1:=Cells.cell Z14.out 1
       have x2:=Cells.cell X14.out 2
       have z2:=Cells.cell Z14.out 2
       have x3:=Cells.cell X14.out 3
       have z3:=Cells.cell Z14.out 3
       have x4:=Cells.cell X14.out 4
       have z4:=Cells.cell Z14.out 4
       go_wp2_with fail
       go_roundw
       case rel=>exact⟨j+1,by go_num,by omega,I14.out⟩
       case measure=>simp[intOf];omega
      ·have HR3:Hid (tell mc (j:Int)=(some (v1,z1,o1))):=by
         show _=_
         rw[HT.out,e1,e2]
         rfl
       have Q1:=HA1 wr hI.out (j:Int) (some (v1,z1,o1)) e1
       have Q2:=fun W hW=>HA2 W hW (j:Int) none e2
       have Q3:=fun W hW=>HA3 W hW (j:Int) (some (v1,z1,o1)) HR3.out
       have HNE:=fun(W:World)=>Ext.ext_neq (exO (j:Int) (some (v1,z1,o1))) W
       unfold Ext.xv exO at Q1
       unfold Ext.xv exO at Q2
       unfold Ext.xv exO at Q3
       unfold Ext.xv exO at HNE
       dsimp only[Option.isSome] at Q1 Q2 Q3 HNE
       clear e1 e2 HT HR3
       have HG:= @Ext.ext_guard
       go_upto_region 27 with(go_at_call 19;refine Q1.out.mono ?_;rintro e w8 ⟨rfl,hb⟩;have I8:=Lib.hid (hI.out.trans (hb.mono hI.out.size));clear hb)
       have I9:=Lib.hid (I8.out.alloc I8.out.size (.cells #[.int .i64 (j:Int),.int .i64 1,.int .i64 v1,.int .i64 z1,.int .i64 o1] 60))
       have HXG:Hid (w7.heap.size≤w8.heap.size):=I8.out.size
       have X9:Hid (Cells (w8.alloc (.cells #[.int .i64 (j:Int),.int .i64 1,.int .i64 v1,.int .i64 z1,.int .i64 o1] 60)) w8.heap.size 60 #[.int .i64 (j:Int),.int .i64 1,.int .i64 v1,.int .i64 z1,.int .i64 o1]):=Cells.new _ _ _
       generalize w8.alloc (.cells #[.int .i64 (j:Int),.int .i64 1,.int .i64 v1,.int .i64 z1,.int .i64 o1] 60)=w9 at*
       generalize w8.heap.size=xg at*
       have Q2:=Q2 w9 I9.out
       clear Q1 I8
       go_upto_region 28 with(go_at_call 19;refine Q2.out.mono ?_;rintro e w10 ⟨rfl,hb⟩;have I10:=Lib.hid (I9.out.trans (hb.mono I9.out.size));have X10:=Lib.hid (Cells.below X9.out hb);clear hb)
       have I11:=Lib.hid (I10.out.alloc I10.out.size (.cells #[.int .i64 0,.int .i64 0,.int .i64 0,.int .i64 0,.int .i64 0] 60))
       have X11:Hid (Cells (w10.alloc (.cells #[.int .i64 0,.int .i64 0,.int .i64 0,.int .i64 0,.int .i64 0] 60)) xg 60 #[.int .i64 (j:Int),.int .i64 1,.int .i64 v1,.int .i64 z1,.int .i64 o1]):=Cells.alloc X10.out _
       have Y11:Hid (Cells (w10.alloc (.cells #[.int .i64 0,.int .i64 0,.int .i64 0,.int .i64 0,.int .i64 0] 60)) w10.heap.size 60 #[.int .i64 0,.int .i64 0,.int .i64 0,.int .i64 0,.int .i64 0]):=Cells.new _ _ _
       have hxy:Hid (w7.heap.size≤xg∧xg<w10.heap.size):=⟨HXG.out,X10.out.lt⟩
       generalize w10.alloc (.cells #[.int .i64 0,.int .i64 0,.int .i64 0,.int .i64 0,.int .i64 0] 60)=w11 at*
       generalize w10.heap.size=yg at*
       clear Q2 I9 X9 I10 X10
       go_upto_region 31 with fail
       have Q3:=Q3 w11 I11.out
       go_upto_region 32 with(go_at_call 19;refine Q3.out.mono ?_;rintro e w13 ⟨rfl,hb⟩;have I13:=Lib.hid (I11.out.trans (hb.mono I11.out.size));have X13:=Lib.hid (Cells.below X11.out hb);clear hb)
       have I14:=Lib.hid (I13.out.alloc I13.out.size (.cells #[.int .i64 (j:Int),.int .i64 1,.int .i64 v1,.int .i64 z1,.int .i64 o1] 60))
       have X14:Hid (Cells (w13.alloc (.cells #[.int .i64 (j:Int),.int .i64 1,.int .i64 v1,.int .i64 z1,.int .i64 o1] 60)) xg 60 #[.int .i64 (j:Int),.int .i64 1,.int .i64 v1,.int .i64 z1,.int .i64 o1]):=Cells.alloc X13.out _
       have Z14:Hid (Cells (w13.alloc (.cells #[.int .i64 (j:Int),.int .i64 1,.int .i64 v1,.int .i64 z1,.int .i64 o1] 60)) w13.heap.size 60 #[.int .i64 (j:Int),.int .i64 1,.int .i64 v1,.int .i64 z1,.int .i64 o1]):=Cells.new _ _ _
       generalize w13.alloc (.cells #[.int .i64 (j:Int),.int .i64 1,.int .i64 v1,.int .i64 z1,.int .i64 o1] 60)=w14 at*
       generalize w13.heap.size=zg at*
       clear Q3 X13 I13 hxy
       have x0:=Cells.cell X14.out 0
       have z0:=Cells.cell Z14.out 0
       have x1:=Cells.cell X14.out 1
       have z1:=Cells.cell Z14.out 1
       have x2:=Cells.cell X14.out 2
       have z2:=Cells.cell Z14.out 2
       have x3:=Cells.cell X14.out 3
       have z3:=Cells.cell Z14.out 3
       have x4:=Cells.cell X14.out 4
       have z4:=Cells.cell Z14.out 4
       go_wp2_with fail
       go_roundw
       case rel=>exact⟨j+1,by go_num,by omega,I14.out⟩
       case measure=>simp[intOf];omega
      ·by_cases hv:v1<v2
       ·have HR3:Hid (tell mc (j:Int)=(some (v2,z2,o2))):=by
          show _=_
          rw[HT.out,e1,e2]
          exact if_pos hv
        have Q1:=HA1 wr hI.out (j:Int) (some (v1,z1,o1)) e1
        have Q2:=fun W hW=>HA2 W hW (j:Int) (some (v2,z2,o2)) e2
        have Q3:=fun W hW=>HA3 W hW (j:Int) (some (v2,z2,o2)) HR3.out
        have HNE:=fun(W:World)=>Ext.ext_neq (exO (j:Int) (some (v2,z2,o2))) W
        unfold Ext.xv exO at Q1
        unfold Ext.xv exO at Q2
        unfold Ext.xv exO at Q3
        unfold Ext.xv exO at HNE
        dsimp only[Option.isSome] at Q1 Q2 Q3 HNE
        clear e1 e2 HT HR3
        have HG:= @Ext.ext_guard
        go_upto_region 27 with(go_at_call 19;refine Q1.out.mono ?_;rintro e w8 ⟨rfl,hb⟩;have I8:=Lib.hid (hI.out.trans (hb.mono hI.out.size));clear hb)
        have I9:=Lib.hid (I8.out.alloc I8.out.size (.cells #[.int .i64 (j:Int),.int .i64 1,.int .i64 v1,.int .i64 z1,.int .i64 o1] 60))
        have HXG:Hid (w7.heap.size≤w8.heap.size):=I8.out.size
        have X9:Hid (Cells (w8.alloc (.cells #[.int .i64 (j:Int),.int .i64 1,.int .i64 v1,.int .i64 z1,.int .i64 o1] 60)) w8.heap.size 60 #[.int .i64 (j:Int),.int .i64 1,.int .i64 v1,.int .i64 z1,.int .i64 o1]):=Cells.new _ _ _
        generalize w8.alloc (.cells #[.int .i64 (j:Int),.int .i64 1,.int .i64 v1,.int .i64 z1,.int .i64 o1] 60)=w9 at*
        generalize w8.heap.size=xg at*
        have Q2:=Q2 w9 I9.out
        clear Q1 I8
        go_upto_region 28 with(go_at_call 19;refine Q2.out.mono ?_;rintro e w10 ⟨rfl,hb⟩;have I10:=Lib.hid (I9.out.trans (hb.mono I9.out.size));have X10:=Lib.hid (Cells.below X9.out hb);clear hb)
        have I11:=Lib.hid (I10.out.alloc I10.out.size (.cells #[.int .i64 (j:Int),.int .i64 1,.int .i64 v2,.int .i64 z2,.int .i64 o2] 60))
        have X11:Hid (Cells (w10.alloc (.cells #[.int .i64 (j:Int),.int .i64 1,.int .i64 v2,.int .i64 z2,.int .i64 o2] 60)) xg 60 #[.int .i64 (j:Int),.int .i64 1,.int .i64 v1,.int .i64 z1,.int .i64 o1]):=Cells.alloc X10.out _
        have Y11:Hid (Cells (w10.alloc (.cells #[.int .i64 (j:Int),.int .i64 1,.int .i64 v2,.int .i64 z2,.int .i64 o2] 60)) w10.heap.size 60 #[.int .i64 (j:Int),.int .i64 1,.int .i64 v2,.int .i64 z2,.int .i64 o2]):=Cells.new _ _ _
        have hxy:Hid (w7.heap.size≤xg∧xg<w10.heap.size):=⟨HXG.out,X10.out.lt⟩
        generalize w10.alloc (.cells #[.int .i64 (j:Int),.int .i64 1,.int .i64 v2,.int .i64 z2,.int .i64 o2] 60)=w11 at*
        generalize w10.heap.size=yg at*
        clear Q2 I9 X9 I10 X10
        have p2:w11.cell? ⟨xg,2,none⟩=some (.int .i64 v1):=Cells.cell X11.out 2
        have p3:w11.cell? ⟨yg,2,none⟩=some (.int .i64 v2):=Cells.cell Y11.out 2
        have hd:decide (v1<v2)=true:=decide_eq_true (by omega)
        go_upto_region 29 with fail
        have y0:=Cells.cell Y11.out 0
        have x0:=Cells.cell X11.out 0
        have f0:=Cells.frozen X11.out 0
        have y1:=Cells.cell Y11.out 1
        have x1:=Cells.cell X11.out 1
        have f1:=Cells.frozen X11.out 1
        have y2:=Cells.cell Y11.out 2
        have x2:=Cells.cell X11.out 2
        have f2:=Cells.frozen X11.out 2
        have y3:=Cells.cell Y11.out 3
        have x3:=Cells.cell X11.out 3
        have f3:=Cells.frozen X11.out 3
        have y4:=Cells.cell Y11.out 4
        have x4:=Cells.cell X11.out 4
        have f4:=Cells.frozen X11.out 4
        go_upto_region 30 with fail
        have X12:Hid (Cells (((((w11.setCell ⟨xg,0,none⟩ (.int .i64 (j:Int))).setCell ⟨xg,1,none⟩ (.int .i64 1)).setCell ⟨xg,2,none⟩ (.int .i64 v2)).setCell ⟨xg,3,none⟩ (.int .i64 z2)).setCell ⟨xg,4,none⟩ (.int .i64 o2)) xg 60 #[.int .i64 (j:Int),.int .i64 1,.int .i64 v2,.int .i64 z2,.int .i64 o2]):=Ext.Cells.set5 X11.out _ _ _ _ _
        have I12:Hid (Below w7.heap.size w7 (((((w11.setCell ⟨xg,0,none⟩ (.int .i64 (j:Int))).setCell ⟨xg,1,none⟩ (.int .i64 1)).setCell ⟨xg,2,none⟩ (.int .i64 v2)).setCell ⟨xg,3,none⟩ (.int .i64 z2)).setCell ⟨xg,4,none⟩ (.int .i64 o2))):=Ext.below5 I11.out hxy.out.1 _ _ _ _ _ _ _ _ _ _
        generalize(((((w11.setCell ⟨xg,0,none⟩ (.int .i64 (j:Int))).setCell ⟨xg,1,none⟩ (.int .i64 1)).setCell ⟨xg,2,none⟩ (.int .i64 v2)).setCell ⟨xg,3,none⟩ (.int .i64 z2)).setCell ⟨xg,4,none⟩ (.int .i64 o2))=w12 at*
        clear X11 I11 Y11 x0 y0 f0 x1 y1 f1 x2 y2 f2 x3 y3 f3 x4 y4 f4
        go_upto_region 31 with fail
        have Q3:=Q3 w12 I12.out
        go_upto_region 32 with(go_at_call 19;refine Q3.out.mono ?_;rintro e w13 ⟨rfl,hb⟩;have I13:=Lib.hid (I12.out.trans (hb.mono I12.out.size));have X13:=Lib.hid (Cells.below X12.out hb);clear hb)
        have I14:=Lib.hid (I13.out.alloc I13.out.size (.cells #[.int .i64 (j:Int),.int .i64 1,.int .i64 v2,.int .i64 z2,.int .i64 o2] 60))
        have X14:Hid (Cells (w13.alloc (.cells #[.int .i64 (j:Int),.int .i64 1,.int .i64 v2,.int .i64 z2,.int .i64 o2] 60)) xg 60 #[.int .i64 (j:Int),.int .i64 1,.int .i64 v2,.int .i64 z2,.int .i64 o2]):=Cells.alloc X13.out _
        have Z14:Hid (Cells (w13.alloc (.cells #[.int .i64 (j:Int),.int .i64 1,.int .i64 v2,.int .i64 z2,.int .i64 o2] 60)) w13.heap.size 60 #[.int .i64 (j:Int),.int .i64 1,.int .i64 v2,.int .i64 z2,.int .i64 o2]):=Cells.new _ _ _
        generalize w13.alloc (.cells #[.int .i64 (j:Int),.int .i64 1,.int .i64 v2,.int .i64 z2,.int .i64 o2] 60)=w14 at*
        generalize w13.heap.size=zg at*
        clear Q3 X13 I13 hxy
        have x0:=Cells.cell X14.out 0
        have z0:=Cells.cell Z14.out 0
        have x1:=Cells.cell X14.out 1
        have z1:=Cells.cell Z14.out 1
        have x2:=Cells.cell X14.out 2
        have z2:=Cells.cell Z14.out 2
        have x3:=Cells.cell X14.out 3
        have z3:=Cells.cell Z14.out 3
        have x4:=Cells.cell X14.out 4
        have z4:=Cells.cell Z14.out 4
        go_wp2_with fail
        go_roundw
        case rel=>exact⟨j+1,by go_num,by omega,I14.out⟩
        case measure=>simp[intOf];omega
       ·have HR3:Hid (tell mc (j:Int)=(some (v1,z1,o1))):=by
          show _=_
          rw[HT.out,e1,e2]
          exact if_neg hv
        have Q1:=HA1 wr hI.out (j:Int) (some (v1,z1,o1)) e1
        have Q2:=fun W hW=>HA2 W hW (j:Int) (some (v2,z2,o2)) e2
        have Q3:=fun W hW=>HA3 W hW (j:Int) (some (v1,z1,o1)) HR3.out
        have HNE:=fun(W:World)=>Ext.ext_neq (exO (j:Int) (some (v1,z1,o1))) W
        unfold Ext.xv exO at Q1
        unfold Ext.xv exO at Q2
        unfold Ext.xv exO at Q3
        unfold Ext.xv exO at HNE
        dsimp only[Option.isSome] at Q1 Q2 Q3 HNE
        clear e1 e2 HT HR3
        have HG:= @Ext.ext_guard
        go_upto_region 27 with(go_at_call 19;refine Q1.out.mono ?_;rintro e w8 ⟨rfl,hb⟩;have I8:=Lib.hid (hI.out.trans (hb.mono hI.out.size));clear hb)
        have I9:=Lib.hid (I8.out.alloc I8.out.size (.cells #[.int .i64 (j:Int),.int .i64 1,.int .i64 v1,.int .i64 z1,.int .i64 o1] 60))
        have HXG:Hid (w7.heap.size≤w8.heap.size):=I8.out.size
        have X9:Hid (Cells (w8.alloc (.cells #[.int .i64 (j:Int),.int .i64 1,.int .i64 v1,.int .i64 z1,.int .i64 o1] 60)) w8.heap.size 60 #[.int .i64 (j:Int),.int .i64 1,.int .i64 v1,.int .i64 z1,.int .i64 o1]):=Cells.new _ _ _
        generalize w8.alloc (.cells #[.int .i64 (j:Int),.int .i64 1,.int .i64 v1,.int .i64 z1,.int .i64 o1] 60)=w9 at*
        generalize w8.heap.size=xg at*
        have Q2:=Q2 w9 I9.out
        clear Q1 I8
        go_upto_region 28 with(go_at_call 19;refine Q2.out.mono ?_;rintro e w10 ⟨rfl,hb⟩;have I10:=Lib.hid (I9.out.trans (hb.mono I9.out.size));have X10:=Lib.hid (Cells.below X9.out hb);clear hb)
        have I11:=Lib.hid (I10.out.alloc I10.out.size (.cells #[.int .i64 (j:Int),.int .i64 1,.int .i64 v2,.int .i64 z2,.int .i64 o2] 60))
        have X11:Hid (Cells (w10.alloc (.cells #[.int .i64 (j:Int),.int .i64 1,.int .i64 v2,.int .i64 z2,.int .i64 o2] 60)) xg 60 #[.int .i64 (j:Int),.int .i64 1,.int .i64 v1,.int .i64 z1,.int .i64 o1]):=Cells.alloc X10.out _
        have Y11:Hid (Cells (w10.alloc (.cells #[.int .i64 (j:Int),.int .i64 1,.int .i64 v2,.int .i64 z2,.int .i64 o2] 60)) w10.heap.size 60 #[.int .i64 (j:Int),.int .i64 1,.int .i64 v2,.int .i64 z2,.int .i64 o2]):=Cells.new _ _ _
        have hxy:Hid (w7.heap.size≤xg∧xg<w10.heap.size):=⟨HXG.out,X10.out.lt⟩
        generalize w10.alloc (.cells #[.int .i64 (j:Int),.int .i64 1,.int .i64 v2,.int .i64 z2,.int .i64 o2] 60)=w11 at*
        generalize w10.heap.size=yg at*
        clear Q2 I9 X9 I10 X10
        have p2:w11.cell? ⟨xg,2,none⟩=some (.int .i64 v1):=Cells.cell X11.out 2
        have p3:w11.cell? ⟨yg,2,none⟩=some (.int .i64 v2):=Cells.cell Y11.out 2
        have hd:decide (v1<v2)=false:=decide_eq_false (by omega)
        go_upto_region 31 with fail
        have Q3:=Q3 w11 I11.out
        go_upto_region 32 with(go_at_call 19;refine Q3.out.mono ?_;rintro e w13 ⟨rfl,hb⟩;have I13:=Lib.hid (I11.out.trans (hb.mono I11.out.size));have X13:=Lib.hid (Cells.below X11.out hb);clear hb)
        have I14:=Lib.hid (I13.out.alloc I13.out.size (.cells #[.int .i64 (j:Int),.int .i64 1,.int .i64 v1,.int .i64 z1,.int .i64 o1] 60))
        have X14:Hid (Cells (w13.alloc (.cells #[.int .i64 (j:Int),.int .i64 1,.int .i64 v1,.int .i64 z1,.int .i64 o1] 60)) xg 60 #[.int .i64 (j:Int),.int .i64 1,.int .i64 v1,.int .i64 z1,.int .i64 o1]):=Cells.alloc X13.out _
        have Z14:Hid (Cells (w13.alloc (.cells #[.int .i64 (j:Int),.int .i64 1,.int .i64 v1,.int .i64 z1,.int .i64 o1] 60)) w13.heap.size 60 #[.int .i64 (j:Int),.int .i64 1,.int .i64 v1,.int .i64 z1,.int .i64 o1]):=Cells.new _ _ _
        generalize w13.alloc (.cells #[.int .i64 (j:Int),.int .i64 1,.int .i64 v1,.int .i64 z1,.int .i64 o1] 60)=w14 at*
        generalize w13.heap.size=zg at*
        clear Q3 X13 I13 hxy
        have x0:=Cells.cell X14.out 0
        have z0:=Cells.cell Z14.out 0
        have x1:=Cells.cell X14.out 1
        have z1:=Cells.cell Z14.out 1
        have x2:=Cells.cell X14.out 2
        have z2:=Cells.cell Z14.out 2
        have x3:=Cells.cell X14.out 3
        have z3:=Cells.cell Z14.out 3
        have x4:=Cells.cell X14.out 4
        have z4:=Cells.cell Z14.out 4
        go_wp2_with fail
        go_roundw
        case rel=>exact⟨j+1,by go_num,by omega,I14.out⟩
        case measure=>simp[intOf];omega
     ·have hjn:¬(j:Int)<60:=by omega
      have L9:=Lib.hid (L7.out.trans (hI.out.mono L7.out.size))
      go_wp2_with fail
      go_ret
      exact⟨rfl,L9.out⟩
end Rp
end
section
open Go.ChangeShapes Go.WideShapes Go.ChangeAt Go.RowKit Mem Args
namespace Rp
theorem replayParts_says:Frame.Says Rows.replayPartsSpec 3:=by
 refine⟨rfl,fun H ds h=> ?_,fun H ds h=> ?_,fun H ds h=> ?_⟩<;>
 ·match ds,h with
  | [d0,d1,d2],_=>rfl
theorem replayParts_walks:Frame.Walks 5 [22,3,3]:=by
 intro H enc W args ds ps base hok hA hsz
 obtain⟨v0,vs0,d0,ds0,p0,q0,hargs,rfl,rfl,h0,r0⟩:=trodAll_cons hA
 obtain⟨v1,vs1,d1,ds1,p1,q1,rfl,rfl,rfl,h1,r1⟩:=trodAll_cons r0
 obtain⟨v2,vs2,d2,ds2,p2,q2,rfl,rfl,rfl,h2,r2⟩:=trodAll_cons r1
 obtain⟨rfl,rfl,rfl⟩:=trodAll_nil r2
 obtain rfl:args= #[v0,v1,v2]:=by cases args;simp_all
 obtain⟨A0,n0,c0,l0,rfl,k0⟩:=open_writes (hok 0 _ v0 rfl rfl) h0 (sized_arg hsz (j:=0) rfl rfl)
 obtain⟨z1,rfl,rfl,rfl,hz1⟩:=open_int Tryz.underlying3 (hok 1 _ v1 rfl rfl) h1
 obtain⟨z2,rfl,rfl,rfl,hz2⟩:=open_int Tryz.underlying3 (hok 2 _ v2 rfl rfl) h2
 exact parts_walk k0 z1 z2
theorem replayParts_over:Rows.replayPartsRow.holds Tryz.pinned (OpenSpec.ofChange Rows.replayPartsSpec):=
 OpenClaim.holds_of_wide 5 Tryz.f5 rfl rfl rfl rfl rfl rfl rfl ⟨rfl,rfl,rfl,rfl,rfl⟩ rfl rfl rfl rfl rfl (by kernel_rfl) Tryz.func5 (by kernel_rfl)
  (of_decide_eq_true (by kernel_rfl)) (by unfold Func.isWrapper;first|(rw[if_pos (by decide+kernel)];kernel_rfl)|(rw[if_neg (by decide+kernel)];exact⟨rfl,rfl⟩))
  (fun os started H enc _=>Frame.lifted (started:=started) Tryz.underlying4 (by kernel_rfl) Tryz.func5 (n:=3) (by rw[Tryz.params5];rfl) replayParts_says (by rw[Tryz.params5];kernel_rfl) (by kernel_rfl)
   (ChangeSpec.witness6 (enc:=enc) (C:=Tryz.checked) false ⟨#[],#[.slice none 0 0,.int .i64 0,.int .i64 0],[]⟩ 8 (by kernel_rfl) (by kernel_rfl) (by kernel_rfl) (by kernel_rfl))
   (by rw[Tryz.params5];exact replayParts_walks))
end Rp
theorem replayParts_holds:Rows.ReplayPartsSaid:=Rp.replayParts_over
end
end Go.Proofs.YtmkagjnkpjpjcaaGreat
