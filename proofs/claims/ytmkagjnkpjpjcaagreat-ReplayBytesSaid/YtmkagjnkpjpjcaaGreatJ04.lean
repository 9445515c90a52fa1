/-
  SEVERAL TEXTS IN ONE FILE: PExtRef, PRegK, PVmReach, PExtAddP, PExtIdx, PExtAdd, PExtJoin.
-/
import Derived.Test.YtmkagjnkpjpjcaaGreatJ03
import Derived.Deep.RegionHeld3
import Derived.WalkKit
import Derived.BigQuiet
import Derived.Shelf.Abstract
import Derived.Laws.MakeOwn
namespace Go.Proofs.YtmkagjnkpjpjcaaGreat
set_option maxRecDepth 100000
set_option linter.unusedSimpArgs false
set_option linter.unusedVariables false
set_option maxHeartbeats 25600000
section
open Go.RowKit Mem
namespace Ext
theorem take_split {l:List Ex} {k:Nat} {x:Ex} (hx:l[k]? =some x):l=l.take k++x::l.drop (k+1):=by
 obtain⟨h,rfl⟩:=List.getElem?_eq_some_iff.1 hx
 rw[←List.drop_eq_getElem_cons h,List.take_append_drop]
theorem take_snoc {l:List Ex} {k:Nat} {x:Ex} (hx:l[k]? =some x):l.take (k+1)=l.take k++ [x]:=by
 rw[List.take_add_one,hx];rfl
def endF (f:Int):List Ex→Int
 | []=>f
 |x::r=>endF x.en r
theorem endF_app (f:Int) (a b:List Ex):endF f (a++b)=endF (endF f a) b:=by
 induction a generalizing f with
 |nil=>rfl
 |cons x r ih=>exact ih _
theorem okF_app (f:Int) (a b:List Ex):okF f (a++b)=(okF f a&&okF (endF f a) b):=by
 induction a generalizing f with
 |nil=>rfl
 |cons x r ih=>simp only[List.cons_append,okF,endF,ih,Bool.and_assoc]
theorem Ok.at_ {f:Int} {l:List Ex} (h:Ok f l) {k:Nat} {x:Ex} (hx:l[k]? =some x):MayX x∧endF f (l.take k)≤x.lba:=by
 have h':=h
 rw[take_split hx,←okF_iff,okF_app,okF,Bool.and_eq_true,Bool.and_eq_true,Bool.and_eq_true,mayE_iff,decide_eq_true_eq] at h'
 exact h'.2.1
theorem Ok.pair {f:Int} {l:List Ex} (h:Ok f l) {i j:Nat} (hij:i<j) {x y:Ex} (hx:l[i]? =some x) (hy:l[j]? =some y):x.en≤y.lba:=by
 rw[←List.take_append_drop (i+1) l] at h
 obtain⟨-,g,h2,h3,-⟩:=ok_split h
 have hxm:x∈l.take (i+1):=List.mem_of_getElem? (i:=i) (by rw[List.getElem?_take,if_pos (by omega)];exact hx)
 have hym:y∈l.drop (i+1):=List.mem_of_getElem? (i:=j-(i+1)) (by rw[List.getElem?_drop,show i+1+(j-(i+1))=j by omega];exact hy)
 exact Int.le_trans (h3 x hxm) (h2.from y hym)
theorem Ok.en_mono {f:Int} {l:List Ex} (h:Ok f l) {i j:Nat} (hij:i≤j) {x y:Ex} (hx:l[i]? =some x) (hy:l[j]? =some y):x.en≤y.en:=by
 rcases Nat.eq_or_lt_of_le hij with rfl|hlt
 ·rw[hx] at hy;injection hy with hy;subst hy;exact Int.le_refl _
 ·have h1:=h.pair hlt hx hy
  have h2:=en_lt (h.at_ hy).1
  omega
theorem Ok.lba_mono {f:Int} {l:List Ex} (h:Ok f l) {i j:Nat} (hij:i≤j) {x y:Ex} (hx:l[i]? =some x) (hy:l[j]? =some y):x.lba≤y.lba:=by
 rcases Nat.eq_or_lt_of_le hij with rfl|hlt
 ·rw[hx] at hy;injection hy with hy;subst hy;exact Int.le_refl _
 ·have h1:=h.pair hlt hx hy
  have h2:=en_lt (h.at_ hx).1
  omega
theorem check_ok {A:Option Addr} {n c:Nat} {l:List Ex} {w:World} (h:RowL w A n c l) (hok:Ok 0 l):
  Calls Tryz.prog 36 #[.slice A n c] w fun e w'=>e= .returned (.int .i64 0)∧Below w.heap.size w w':=by
 have HR:=Lib.hid h
 have hbig:=h.big
 have hlen:=Lib.hid h.len
 have HOK:=Lib.hid hok
 clear h hok
 go_enter Tryz.func36,Tryz.ntmps36
 go_wp2_with fail
 go_loopw [3,5,8] (fun s _ i wr=>∃(k:Nat) (u:Int),i= .int .i64 k∧s= .int .i64 u∧k≤n∧Hid (Below w.heap.size w wr∧endF 0 (l.take k)=u)) (fun _ _ i _=>n-(intOf i).toNat)
 case atStart=>exact⟨0,0,rfl,rfl,by omega,Below.refl _ _,rfl⟩
 case round=>
  obtain⟨k,u,rfl,rfl,hk,hH⟩:=hrel
  by_cases hlt:k<n
  ·obtain⟨x,hx⟩:=HR.out.get hlt
   obtain⟨b,o,hA,d0,d1,d2,d3,d4⟩:=RowS.ext_at (HR.out.below hH.out.1) hx
   subst hA
   obtain⟨hmx,hle⟩:=HOK.out.at_ hx
   have hk0:(0:Int)≤(k:Int):=by omega
   have hkn:(k:Int)<(n:Int):=by omega
   have f2:decide (x.lba<u)=false:=decide_eq_false (by have:=hH.out.2;omega)
   have HSS:Hid (endF 0 (l.take (k+1))=x.en):=by show _=_;rw[take_snoc hx,endF_app];rfl
   clear hx hle
   have A1:Hid (Below wr.heap.size wr (wr.alloc (.cells #[.int .i64 x.lba,.int .i64 x.n,.int .i64 x.ver,.int .i64 x.zone,.int .i64 x.off] 60))):=(Below.refl _ wr).alloc (Nat.le_refl _) _
   have B1:Hid (LBox (wr.alloc (.cells #[.int .i64 x.lba,.int .i64 x.n,.int .i64 x.ver,.int .i64 x.zone,.int .i64 x.off] 60)) wr.heap.size x):=Cells.new _ _ _
   obtain⟨n0,n1,n2,n3,n4⟩:=LBox.cells B1.out
   have HM1:=fun w=>Lib.hid (mayBe_any x hmx w)
   have HE1:=fun w=>Lib.hid (end_any x hmx w)
   clear hmx
   go_upto_region 5 with fail
   generalize wr.alloc (.cells #[.int .i64 x.lba,.int .i64 x.n,.int .i64 x.ver,.int .i64 x.zone,.int .i64 x.off] 60)=w1 at*
   have L1:=Lib.hid (hH.out.1.trans (A1.out.mono hH.out.1.size))
   clear d0 d1 d2 d3 d4 A1
   go_wp2_with (first|(go_at_call 66;refine(HM1 _).out.mono ?_;rintro e w2 ⟨rfl,hb⟩;have L2:=Lib.hid (L1.out.trans (hb.mono L1.out.size));have B2:=Lib.hid (Cells.below B1.out hb);clear hb;obtain⟨m0,m1,m2,m3,m4⟩:=LBox.cells B2.out)|(go_at_call 67;refine(HE1 _).out.mono ?_;rintro e w3 ⟨rfl,hb⟩;have L3:=Lib.hid (L2.out.trans (hb.mono L2.out.size));clear hb)|fail)
   go_roundw
   case rel=>exact⟨k+1,x.en,by go_num,rfl,by omega,L3.out,HSS.out⟩
   case measure=>simp[intOf];omega
  ·go_wp2_with fail
   go_ret
   exact⟨rfl,hH.out.1⟩
theorem manyE_app (a b:List Ex):manyE (a++b)=manyE a+manyE b:=by
 induction a with
 |nil=>show _=0+_;rw[Int.zero_add];rfl
 |cons x r ih=>rw[List.cons_append,manyE,manyE,ih,Int.add_assoc]
theorem many_any {A:Option Addr} {n c:Nat} {l:List Ex} {w:World} (h:RowL w A n c l) (hok:Ok 0 l):
  Calls Tryz.prog 12 #[.slice A n c] w fun e w'=>e= .returned (.int .i64 (manyE l))∧Below w.heap.size w w':=by
 have HR:=Lib.hid h
 have hbig:=h.big
 have hlen:=Lib.hid h.len
 have HOK:=Lib.hid hok
 have HC:=fun w (h:RowL w A n c l)=>Lib.hid (check_ok h hok)
 clear h hok
 go_enter Tryz.func12,Tryz.ntmps12
 go_wp2_with fail
 refine(HC w HR.out).out.mono ?_
 rintro e w0 ⟨rfl,hb⟩
 have L0:=Lib.hid hb
 clear hb
 go_wp2_with fail
 go_loopw [3,5,11] (fun s _ i wr=>∃(k:Nat) (u:Int),i= .int .i64 k∧s= .int .i64 u∧k≤n∧Hid (Below w.heap.size w wr∧manyE (l.take k)=u)) (fun _ _ i _=>n-(intOf i).toNat)
 case atStart=>exact⟨0,0,rfl,rfl,by omega,L0.out,rfl⟩
 case round=>
  obtain⟨k,u,rfl,rfl,hk,hH⟩:=hrel
  by_cases hlt:k<n
  ·obtain⟨x,hx⟩:=HR.out.get hlt
   obtain⟨b,o,hA,d0,d1,d2,d3,d4⟩:=RowS.ext_at (HR.out.below hH.out.1) hx
   subst hA
   have hk0:(0:Int)≤(k:Int):=by omega
   have hkn:(k:Int)<(n:Int):=by omega
   have HSS:Hid (manyE (l.take (k+1))=u+x.n):=by show _=_;rw[take_snoc hx,manyE_app,hH.out.2];show _+(_+0)=_;omega
   have hw:IntKind.i64.wrap (u+x.n)=u+x.n:=by
    have h1:=HSS.out
    have ho:=HOK.out
    rw[←List.take_append_drop (k+1) l] at ho
    have h2:=many_nonneg (ok_split ho).1
    exact wrap_small (by omega) (by omega)
   clear hx
   have A1:Hid (Below wr.heap.size wr (wr.alloc (.cells #[.int .i64 x.lba,.int .i64 x.n,.int .i64 x.ver,.int .i64 x.zone,.int .i64 x.off] 60))):=(Below.refl _ wr).alloc (Nat.le_refl _) _
   have B1:Hid (LBox (wr.alloc (.cells #[.int .i64 x.lba,.int .i64 x.n,.int .i64 x.ver,.int .i64 x.zone,.int .i64 x.off] 60)) wr.heap.size x):=Cells.new _ _ _
   obtain⟨n0,n1,n2,n3,n4⟩:=LBox.cells B1.out
   go_upto_region 7 with fail
   generalize wr.alloc (.cells #[.int .i64 x.lba,.int .i64 x.n,.int .i64 x.ver,.int .i64 x.zone,.int .i64 x.off] 60)=w1 at*
   have L1:=Lib.hid (hH.out.1.trans (A1.out.mono hH.out.1.size))
   clear d0 d1 d2 d3 d4 A1
   go_wp2_with fail
   go_roundw
   case rel=>exact⟨k+1,u+x.n,by go_num,rfl,by omega,L1.out,HSS.out⟩
   case measure=>simp[intOf];omega
  ·have hkn:l.take k=l:=List.take_of_length_le (by have:=hlen.out;omega)
   have HK:=Lib.hid (show manyE l=u by rw[←hkn];exact hH.out.2)
   clear hkn
   go_wp2_with fail
   go_ret
   exact⟨by rw[HK.out];rfl,hH.out.1⟩
end Ext
end
section
open Go
namespace RegK
variable {P:Program} {ops:Array Oper} {Q:Exit→Act→World→Prop} {S:World→Prop} {md:Region.Mode} {k0:Nat}
def Held (P:Program) (md:Region.Mode) (ops:Array Oper) (Q:Exit→Act→World→Prop) (S:World→Prop) (k0:Nat):Nat→Array Bool→Act→World→Prop
 |0=>fun listed a w=>Region.ready md ops listed= []∧Q .normal a w
 |f+1=>fun listed a w=>(Region.ready md ops listed= []→Q .normal a w)∧
   ∀i∈Region.ready md ops listed,wpOp P ops Q i (fun b v=>(i≠k0→S v)∧Held P md ops Q S k0 f (listed.setIfInBounds i true) b v) a w
theorem any:∀(f:Nat) (listed:Array Bool) (a:Act) (w:World),Held P md ops Q S k0 f listed a w→wpAny P md ops Q f listed a w:=by
 intro f
 induction f with
 |zero=>intro listed a w h;exact h
 |succ f ih=>intro listed a w h;exact⟨h.1,fun i hi=>wpOp_mono (fun b v hb=>ih _ b v hb.2) (h.2 i hi)⟩
theorem start (k0:Nat) {id:Nat} {a:Act} {w:World} (hm:P.follows .mixedOrders=true) (hS:S w.drew)
  (h:S w.drew→Held P .any ops Q S k0 ops.size (Array.replicate ops.size false) a w.drew):(Code.region id ops true).wp P Q a w:=
 wp_region_any hm (any _ _ _ _ (h hS))
def chain (md:Region.Mode) (ops:Array Oper):List Nat→Bool
 | []=>true
 | [_]=>true
 |u::v::r=>(match ops[u]? with|some o=>o.after.any fun e=>Region.binds md e&&e.on==v|none=>false)&&chain md ops (v::r)
theorem chain_not {listed:Array Bool}:∀ {p:List Nat},chain md ops p=true→(∀u∈p,listed.getD u true=false)→∀u∈p.dropLast,u∉Region.ready md ops listed
 | [],_,_,u,hu=>by cases hu
 | [_],_,_,u,hu=>by cases hu
 |x::y::r,hc,hl,u,hu=>by
  rw[chain,Bool.and_eq_true] at hc
  rw[List.dropLast_cons_cons] at hu
  rcases List.mem_cons.1 hu with rfl|hu
  ·intro hr
   obtain⟨-,o,ho,hall⟩:=mem_ready.1 hr
   rw[ho] at hc
   obtain⟨e,he,hb⟩:=Array.any_eq_true'.1 hc.1
   rw[Bool.and_eq_true,beq_iff_eq] at hb
   have h1:=hall e he hb.1
   have h2:=hl y (List.mem_cons_of_mem _ List.mem_cons_self)
   rw[hb.2] at h1
   rcases Nat.lt_or_ge y listed.size with h'|h'
   ·simp[h'] at h1 h2;rw[h1] at h2;cases h2
   ·simp[Array.getElem?_eq_none h'] at h1
  ·exact chain_not hc.2 (fun v hv=>hl v (List.mem_cons_of_mem _ hv)) u hu
theorem first {i:Nat} {oi:Oper} {v:Value} (hi:ops[i]? =some oi) (hsel:∀(j:Nat) (o:Oper) cs b,ops[j]? =some o→o.op≠ .select cs b)
  (hQ:∀c a w,Q (.panic c) (a.put oi.dst v) w→Q (.panic c) a w) (p:List Nat) (hp:chain md ops (p++ [i])=true) (hk:p.head? =some k0):
  ∀(f:Nat) (listed:Array Bool) (a:Act) (w:World),
   (∀j oj,ops[j]? =some oj→j≠i→listed.getD j true=false→(∀e∈oj.after,Region.binds md e=true→e.on≠i)→oi.apart ops oj=true)→
   i∈Region.ready md ops listed→(∀u∈p++ [i],listed.getD u true=false)→YieldsIf P ops S oi v a→S w→
   Held P md ops Q S k0 f (listed.setIfInBounds i true) (a.put oi.dst v) w→Held P md ops Q S k0 (f+1) listed a w:=by
 have hkp:k0∈(p++ [i]).dropLast:=by
  rw[List.dropLast_concat]
  cases p with
  |nil=>cases hk
  |cons x r=>injection hk with hk;subst hk;exact List.mem_cons_self
 intro f
 induction f with
 |zero=>
  intro listed a w _ hr _ hy hS H
  refine⟨fun h=>(by rw[h] at hr;cases hr),fun j hj=> ?_⟩
  by_cases hji:j=i
  ·subst hji
   exact hy.wpOp hi hS ⟨fun _=>hS,H⟩
  ·have h0:=ready_mono hj hji
   rw[H.1] at h0
   cases h0
 |succ f ih=>
  intro listed a w hfree hr hpl hy hS H
  have hnk:=chain_not hp hpl
  refine⟨fun h=>(by rw[h] at hr;cases hr),fun j hj=> ?_⟩
  by_cases hji:j=i
  ·subst hji
   exact hy.wpOp hi hS ⟨fun _=>hS,H⟩
  ·have hjk:j≠k0:=fun e=>hnk k0 hkp (e▸hj)
   have hjp:j∉p++ [i]:=fun hm=>by
    rcases List.mem_append.1 hm with hm|hm
    ·exact hnk j (by rw[List.dropLast_concat];exact hm) hj
    ·exact hji (List.mem_singleton.1 hm)
   obtain⟨hjun,oj,hoj,hall⟩:=mem_ready.1 hj
   have hnot:∀e∈oj.after,Region.binds md e=true→e.on≠i:=fun e he hb heq=>by
    have q1:=hall e he hb
    have q0:=hpl i (by simp)
    rw[heq] at q1
    rcases Nat.lt_or_ge i listed.size with h'|h'
    ·simp[h'] at q0 q1;rw[q1] at q0;cases q0
    ·simp[Array.getElem?_eq_none h'] at q1
   have h2:=wpOp_putIf hoj (hfree j oj hoj hji hjun hnot) (fun cs b=>hsel i oi cs b hi) (fun cs b=>hsel j oj cs b hoj) hQ hy (H.2 j (ready_mono hj hji))
   refine wpOp_mono (fun b v' h3=>⟨h3.2.1,ih (listed.setIfInBounds j true) b v' ?_ (ready_mono hr (Ne.symm hji)) ?_ h3.1 (h3.2.1 hjk) ?_⟩) h2
   ·intro k ok hk' hki hun hno
    refine hfree k ok hk' hki ?_ hno
    by_cases hjk2:j=k
    ·subst hjk2;exact hjun
    ·rw[getD_set_ne true hjk2] at hun;exact hun
   ·intro u hu
    by_cases hju:j=u
    ·exact absurd (hju▸hu) hjp
    ·rw[getD_set_ne true hju];exact hpl u hu
   ·rw[Array.setIfInBounds_comm _ _ hji]
    exact h3.2.2
theorem take (i:Nat) (p:List Nat) {d:Option Tmp} {op:Op} {ty:TypeId} {ps:String} {af:Array _} {g:Option _} {v:Value} {fuel:Nat} {listed:Array Bool} {a:Act} {w:World} (hi:ops[i]? =some {dst:=d,op:=op,type:=ty,pos:=ps,after:=af,guard:=g})
  (hs:Region.noSelect ops=true) (hf:Region.free md ops listed i=true) (hr:(Region.ready md ops listed).contains i=true)
  (hp:chain md ops (p++ [i])=true) (hk:p.head? =some k0) (hl:((p++ [i]).all fun u=> !listed.getD u true)=true)
  (hQ:∀c a w,Q (.panic c) (a.put d v) w→Q (.panic c) a w) (hy:YieldsIf P ops S {dst:=d,op:=op,type:=ty,pos:=ps,after:=af,guard:=g} v a) (hS:S w)
  (h:Held P md ops Q S k0 fuel (listed.setIfInBounds i true) (a.put d v) w):Held P md ops Q S k0 (fuel+1) listed a w:=
 first hi (Region.noSelect_spec hs) hQ p hp hk fuel listed a w (Region.free_spec hi hf) (by simpa using hr) (fun u hu=>by have:=List.all_eq_true.1 hl u hu;simpa using this) hy hS h
theorem tk (i:Nat) (p:List Nat) {d:Option Tmp} {op:Op} {ty:TypeId} {ps:String} {af:Array _} {g:Option _} {v:Value} {fuel:Nat} {listed listed':Array Bool} {a a':Act} {w:World} (hi:ops[i]? =some {dst:=d,op:=op,type:=ty,pos:=ps,after:=af,guard:=g})
  (h:Held P md ops Q S k0 fuel listed' a' w)
  (hs:Region.noSelect ops=true:=by kernel_rfl) (hf:Region.free md ops listed i=true:=by kernel_rfl) (hr:(Region.ready md ops listed).contains i=true:=by kernel_rfl)
  (hp:chain md ops (p++ [i])=true:=by kernel_rfl) (hk:p.head? =some k0:=by rfl) (hl:((p++ [i]).all fun u=> !listed.getD u true)=true:=by kernel_rfl)
  (hQ:∀c a w,Q (.panic c) (a.put d v) w→Q (.panic c) a w:=by exact fun _ _ _ h=>h)
  (hy:YieldsIf P ops S {dst:=d,op:=op,type:=ty,pos:=ps,after:=af,guard:=g} v a:=by
   first
    |(refine Or.inl ⟨by rfl,?_⟩;intro W hSW;(try dsimp only at hSW);(try go_split_ands);go_simp;(try(with_reducible rfl));done)
    |exact Or.inr ⟨by rfl,rfl⟩)
  (hS:S w:=by assumption)
  (hp':a.put d v=a':=by(try simp only[Act.put,List.setIfInBounds_toArray,List.set_cons_zero,List.set_cons_succ]);rfl)
  (hl':listed.setIfInBounds i true=listed':=by(try simp only[List.setIfInBounds_toArray,List.set_cons_zero,List.set_cons_succ]);rfl):
  Held P md ops Q S k0 (fuel+1) listed a w:=by
 subst hp' hl'
 exact take i p hi hs hf hr hp hk hl hQ hy hS h
theorem step (i:Nat) {d:Option Tmp} {op:Op} {ty:TypeId} {ps:String} {af:Array _} {g:Option _} {fuel:Nat} {listed:Array Bool} {a:Act} {w:World} (hi:ops[i]? =some {dst:=d,op:=op,type:=ty,pos:=ps,after:=af,guard:=g})
  (hr:Region.ready md ops listed= [i]) (hw:Region.wanted {dst:=d,op:=op,type:=ty,pos:=ps,after:=af,guard:=g} (yielded ops a.tmps)=true)
  (h:∀K':Act→World→Prop,Shut (∀a w,(i≠k0→S w)→Held P md ops Q S k0 fuel (listed.setIfInBounds i true) a w→K' a w)→Oper.wp P {dst:=d,op:=op,type:=ty,pos:=ps,after:=af,guard:=g} a w K' Q):
  Held P md ops Q S k0 (fuel+1) listed a w:=
 ⟨(fun h0=>by rw[hr] at h0;cases h0),fun j hj=>by
   rw[hr] at hj
   obtain rfl:=List.mem_singleton.1 hj
   exact wpOp_step hi (fun K' hK=>by rw[if_pos hw];exact h K' (fun a w hS hW=>hK a w ⟨hS,hW⟩))⟩
theorem done {listed:Array Bool} {a:Act} {w:World} (hr:Region.ready md ops listed= []) (h:Q .normal a w):∀f,Held P md ops Q S k0 f listed a w
 |0=>⟨hr,h⟩
 |_+1=>⟨fun _=>h,fun i hi=>by rw[hr] at hi;cases hi⟩
end RegK
end
section
open Go.RowKit Mem Ext
namespace Vm
theorem reach_any {A:Option Addr} {n c:Nat} {l:List Ex} {w:World} (h:RowL w A n c l) (hm:∀x∈l,MayX x) (hn:0<n):
  Calls Tryz.prog 130 #[.slice A n c] w fun e w'=>(∃a k:Int,e= .returned (.tuple #[.int .i64 a,.int .i64 k])∧rangeB a k=true)∧Below w.heap.size w w':=by
 have HR:=Lib.hid h
 have hbig:=h.big
 have hlen:=Lib.hid h.len
 have HM:=Lib.hid hm
 have hmax:= @run_max2
 have hmin:= @run_min2
 obtain⟨x,hx⟩:=h.get hn
 obtain⟨b,o,hA,d0,d1,d2,d3,d4⟩:=RowS.ext_at h hx
 have hxm:=hm x (List.mem_of_getElem? hx)
 subst hA
 have e0:w.cell? ⟨b,o,none⟩=some (.int .i64 x.lba):=by simpa using d0
 have e1:w.cell? ⟨b,o+1,none⟩=some (.int .i64 x.n):=by simpa using d1
 have hw:IntKind.i64.wrap (x.lba+x.n)=x.lba+x.n:=by have:=hxm.1;have:=hxm.2.1;have:=hxm.2.2.1;exact Ext.wrap_small (by omega) (by omega)
 have hn0:(0:Int)<(n:Int):=by omega
 have HS0:Hid (0≤x.lba∧x.lba+1≤x.lba+x.n∧x.lba+x.n≤1099511627776):=by have:=hxm.1;have:=hxm.2.1;have:=hxm.2.2.1;refine⟨by omega,by omega,by omega⟩
 have HN:=Lib.hid hn
 clear h hx hm hxm d0 d1 d2 d3 d4 hn
 go_enter Tryz.func130,Tryz.ntmps130
 go_upto_region 1 with fail
 go_big_quiet (fail)
 have L0:Hid (Below w.heap.size w (w.drewN nq)):=below_drewN (Below.refl _ w) nq
 generalize w.drewN nq=w1 at*
 clear e0 e1 hn0 hw nq
 go_wp2_with fail
 generalize x.lba+x.n=t0 at*
 generalize x.lba=f0 at*
 go_loopw [4,5,7,23] (fun vf vt _ i wr=>∃(k:Nat) (f t:Int),i= .int .i64 k∧vf= .int .i64 f∧vt= .int .i64 t∧k≤n∧Hid (Below w.heap.size w wr∧0≤f∧f+1≤t∧t≤1099511627776)) (fun _ _ _ i _=>n-(intOf i).toNat)
 case atStart=>exact⟨0,f0,t0,rfl,rfl,rfl,by omega,L0.out,HS0.out⟩
 case round=>
  clear HS0 L0
  obtain⟨k,f,t,rfl,rfl,rfl,hk,hH⟩:=hrel
  by_cases hlt:k<n
  ·obtain⟨y,hy⟩:=HR.out.get hlt
   obtain⟨b,o,hA,d0,d1,d2,d3,d4⟩:=RowS.ext_at (HR.out.below hH.out.1) hy
   injection hA with hA
   injection hA with h1 h2
   subst h1 h2
   have hk0:(0:Int)≤(k:Int):=by omega
   have hkn:(k:Int)<(n:Int):=by omega
   have hym:=HM.out y (List.mem_of_getElem? hy)
   have hw:IntKind.i64.wrap (y.lba+y.n)=y.lba+y.n:=by have:=hym.1;have:=hym.2.1;have:=hym.2.2.1;exact Ext.wrap_small (by omega) (by omega)
   have HY:Hid (0≤min f y.lba∧min f y.lba+1≤max t (y.lba+y.n)∧max t (y.lba+y.n)≤1099511627776):=by have:=hym.1;have:=hym.2.1;have:=hym.2.2.1;have:=hH.out.2;refine⟨by omega,by omega,by omega⟩
   clear hy hym
   have A1:Hid (Below wr.heap.size wr (wr.alloc (.cells #[.int .i64 y.lba,.int .i64 y.n,.int .i64 y.ver,.int .i64 y.zone,.int .i64 y.off] 60))):=(Below.refl _ wr).alloc (Nat.le_refl _) _
   have B1:Hid (LBox (wr.alloc (.cells #[.int .i64 y.lba,.int .i64 y.n,.int .i64 y.ver,.int .i64 y.zone,.int .i64 y.off] 60)) wr.heap.size y):=Cells.new _ _ _
   obtain⟨n0,n1,n2,n3,n4⟩:=LBox.cells B1.out
   go_upto_region 5 with fail
   have L1:=Lib.hid (hH.out.1.trans (A1.out.mono hH.out.1.size))
   generalize wr.alloc (.cells #[.int .i64 y.lba,.int .i64 y.n,.int .i64 y.ver,.int .i64 y.zone,.int .i64 y.off] 60)=w1 at*
   clear d0 d1 d2 d3 d4 A1 n2 n3 n4
   go_big_quiet (fail)
   have L2:Hid (Below w.heap.size w (w1.drewN nq)):=below_drewN L1.out nq
   generalize w1.drewN nq=w2 at*
   generalize max t (y.lba+y.n)=t' at*
   generalize min f y.lba=f' at*
   clear n0 n1 nq L1 B1 hw
   go_wp2_with fail
   go_roundw
   case rel=>exact⟨k+1,f',t',by go_num,rfl,rfl,by omega,L2.out,HY.out⟩
   case measure=>simp[intOf];omega
  ·have hw:IntKind.i64.wrap (t-f)=t-f:=by have:=hH.out;exact Ext.wrap_small (by omega) (by omega)
   go_wp2_with fail
   go_ret2
   refine⟨⟨f,t-f,rfl,?_⟩,hH.out.1⟩
   have:=hH.out
   exact rangeB_iff.2 ⟨by omega,by omega,by omega⟩
end Vm
end
section
open Go.RowKit Mem
namespace Ext
theorem snoc_casesE (l:List Ex):l= []∨∃a z,l=a++ [z]:=by
 rcases List.eq_nil_or_concat l with h|⟨a,z,h⟩
 ·exact .inl h
 ·exact .inr ⟨a,z,by simpa using h⟩
theorem clips_mid {a b:Int} {l:List Ex} (hab:a<b) {i j:Nat} (hij:i≤j) (h1:∀t x,t<i→l[t]? =some x→x.en≤a) (h2:∀t x,i≤t→l[t]? =some x→a<x.en)
  (h3:∀t x,t<j→l[t]? =some x→x.lba<b) (h4:∀t x,j≤t→l[t]? =some x→b≤x.lba):clips a b l=((l.drop i).take (j-i)).map (clip a b):=by
 have e1:(l.drop i).drop (j-i)=l.drop j:=by rw[List.drop_drop];congr 1;omega
 have e:l=l.take i++((l.drop i).take (j-i)++l.drop j):=by rw[←e1,List.take_append_drop,List.take_append_drop]
 have hd:decide (a<b)=true:=decide_eq_true hab
 have f1:(l.take i).filter (touch a b)= []:=by
  rw[List.filter_eq_nil_iff]
  intro x hx ht
  obtain⟨t,hti⟩:=List.mem_iff_getElem?.1 hx
  rw[List.getElem?_take] at hti
  split at hti
  ·rename_i hlt
   have:=h1 t x hlt hti
   have:=(touch_iff.1 ht).1
   omega
  ·cases hti
 have f3:(l.drop j).filter (touch a b)= []:=by
  rw[List.filter_eq_nil_iff]
  intro x hx ht
  obtain⟨t,hti⟩:=List.mem_iff_getElem?.1 hx
  rw[List.getElem?_drop] at hti
  have:=h4 (j+t) x (by omega) hti
  have:=(touch_iff.1 ht).2
  omega
 have f2:((l.drop i).take (j-i)).filter (touch a b)=(l.drop i).take (j-i):=by
  rw[List.filter_eq_self]
  intro x hx
  obtain⟨t,hti⟩:=List.mem_iff_getElem?.1 hx
  rw[List.getElem?_take] at hti
  split at hti
  ·rename_i hlt
   rw[List.getElem?_drop] at hti
   exact touch_iff.2 ⟨h2 (i+t) x (by omega) hti,h3 (i+t) x (by omega) hti⟩
  ·cases hti
 unfold clips
 rw[hd,cond_true]
 conv=>lhs;rw[e]
 rw[List.filter_append,List.filter_append,f1,f2,f3,List.nil_append,List.append_nil]
theorem mid_touch {a b:Int} {l:List Ex} {i j:Nat} (h2:∀t x,i≤t→l[t]? =some x→a<x.en) (h3:∀t x,t<j→l[t]? =some x→x.lba<b):∀x∈(l.drop i).take (j-i),a<x.en∧x.lba<b:=by
 intro x hx
 obtain⟨t,hti⟩:=List.mem_iff_getElem?.1 hx
 rw[List.getElem?_take] at hti
 split at hti
 ·rw[List.getElem?_drop] at hti
  exact⟨h2 (i+t) x (by omega) hti,h3 (i+t) x (by omega) hti⟩
 ·cases hti
theorem ok_mid {f:Int} {l:List Ex} (h:Ok f l) (i j:Nat):∃g,Ok g ((l.drop i).take j):=by
 rw[←List.take_append_drop i l] at h
 obtain⟨-,g,h2,-⟩:=ok_split h
 rw[←List.take_append_drop j (l.drop i)] at h2
 exact⟨g,(ok_split h2).1⟩
theorem cut_cut (y:Ex) (a b:Int):cutE (cutE y a y.en) a b=cutE y a b:=by
 refine ex_ext rfl rfl rfl rfl ?_
 rw[cutE_off,cutE_off,cutE_off]
 show(if y.zone= -1 then _ else _+(a-a)*16)=_
 split
 ·rfl
 ·omega
theorem clip_inner {a b:Int} {x:Ex} (h1:a≤x.lba) (h2:x.en≤b):clip a b x=x:=by
 unfold clip
 rw[show max x.lba a=x.lba by omega,show min x.en b=x.en by omega,cutE_self]
theorem fix_mid {g a b:Int} {m:List Ex} (hm:Ok g m) (ht:∀x∈m,a<x.en∧x.lba<b) {y z:Ex} {q:Nat} (hq:m.length=q+1) (hy:m[0]? =some y) (hz:(m.set 0 (cutE y (max y.lba a) y.en))[q]? =some z):
  (m.set 0 (cutE y (max y.lba a) y.en)).set q (cutE z z.lba (min z.en b))=m.map (clip a b):=by
 rcases m with _|⟨x,r⟩
 ·cases hy
 injection hy with hy
 subst hy
 rw[List.set_cons_zero] at*
 rcases snoc_casesE r with rfl|⟨s,u,rfl⟩
 ·obtain rfl:q=0:=by simp at hq;omega
  rw[List.getElem?_cons_zero] at hz
  injection hz with hz
  subst hz
  rw[List.set_cons_zero,List.map_cons,List.map_nil,cutE_en]
  show [cutE (cutE x (max x.lba a) x.en) (max x.lba a) (min x.en b)]=_
  rw[cut_cut];rfl
 ·have hql:q=s.length+1:=by simp at hq;omega
  subst hql
  rw[List.getElem?_cons_succ,List.getElem?_append_right (Nat.le_refl _),Nat.sub_self,List.getElem?_cons_zero] at hz
  injection hz with hz
  subst hz
  obtain⟨o1,g2,o2,en,hg⟩:=ok_split hm.2.2
  have hu:=ht u (by simp)
  have hxu:x.en≤u.lba:=Int.le_trans hg (o2.from u (by simp))
  have hx:=ht x (by simp)
  rw[List.set_cons_succ,List.set_append_right _ _ (Nat.le_refl _),Nat.sub_self,List.set_cons_zero,List.map_cons,List.map_append,List.map_cons,List.map_nil]
  congr 1
  ·show _=cutE x (max x.lba a) (min x.en b)
   rw[show min x.en b=x.en by omega]
  ·congr 1
   ·symm
    rw[List.map_congr_left (g:=id),List.map_id]
    intro v hv
    have h1:=o1.from v hv
    have h2:=en v hv
    have h3:=o2.from u (by simp)
    exact clip_inner (by omega) (by omega)
   ·show [_]= [cutE u (max u.lba a) (min u.en b)]
    rw[show max u.lba a=u.lba by omega]
theorem set_out (o m:List Ex) (k:Nat) (v:Ex):(o++m).set (o.length+k) v=o++m.set k v:=by
 rw[List.set_append_right _ _ (Nat.le_add_right _ _),Nat.add_sub_cancel_left]
theorem get_out (o m:List Ex) (k:Nat):(o++m)[o.length+k]? =m[k]? :=by
 rw[List.getElem?_append_right (Nat.le_add_right _ _),Nat.add_sub_cancel_left]
end Ext
end
section
open Go.RowKit Mem
namespace Ext
def PredL (g:Nat) (lb:Array Value) (p:Ex→Bool) (w:World):Prop:=
 ∀(W:World) (x:Ex),MayX x→Below w.heap.size w W→Calls Tryz.prog g (#[xv x]++lb) W fun e w'=>e= .returned (.bool (p x))∧Below W.heap.size W w'
theorem index_any {A:Option Addr} {n c:Nat} {l:List Ex} {w:World} (h:RowL w A n c l) (g:Nat) (lb:Array Value) (eg:∀args w,(callFunc g args).run Tryz.prog w= .ok (.enter g args) w) (p:Ex→Bool) (hp:PredL g lb p w) (hq:∀x∈l,MayX x):
  Calls Tryz.prog 196 #[.slice A n c,.func (.func g) #[] lb] w fun e w'=>(∃r:Int,e= .returned (.int .i64 r)∧decide (0≤r)=l.any p)∧Below w.heap.size w w':=by
 have HR:=Lib.hid h
 have hbig:=h.big
 have hlen:=Lib.hid h.len
 have HP:=Lib.hid hp
 have HQ:=Lib.hid hq
 clear h hp hq
 go_enter Tryz.func196,Tryz.ntmps196
 go_wp2
 go_loopw [5,8] (fun _ i wr=>∃k:Nat,i= .int .i64 k∧k≤n∧Hid (Below w.heap.size w wr∧∀j x,j<k→l[j]? =some x→p x=false)) (fun _ i _=>n-(intOf i).toNat)
 case atStart=>exact⟨0,rfl,by omega,Below.refl _ _,fun j x hj=>by omega⟩
 case round=>
  obtain⟨k,rfl,hk,hH⟩:=hrel
  by_cases hlt:k<n
  ·obtain⟨y,hy⟩:=HR.out.get hlt
   obtain⟨b,o,hA,c0,c1,c2,c3,c4⟩:=RowS.ext_at (HR.out.below hH.out.1) hy
   subst hA
   have hk0:(0:Int)≤(k:Int):=by omega
   have hkn:(k:Int)<(n:Int):=by omega
   have HY0:=Lib.hid hy
   have HC:=fun W (hW:Below w.heap.size w W)=>HP.out W y (HQ.out y (List.mem_of_getElem? HY0.out)) hW
   have HY:=Lib.hid hy
   clear hy
   cases e:p y
   ·rw[e] at HC
    have HE:=Lib.hid e
    clear e
    go_wp2_with (go_at_fn g;refine(HC _ hH.out.1).mono ?_;rintro e w2 ⟨rfl,hb⟩;have L2:=Lib.hid (hH.out.1.trans (hb.mono hH.out.1.size));clear hb)
    go_roundw
    case rel=>
     refine⟨k+1,by go_num,by omega,L2.out,fun j x hj hx=> ?_⟩
     by_cases h1:j=k
     ·subst h1
      have:=HY.out.symm.trans hx
      injection this with this;subst this;exact HE.out
     ·exact hH.out.2 j x (by omega) hx
    case measure=>simp[intOf];omega
   ·rw[e] at HC
    have HE:=Lib.hid e
    clear e
    go_wp2_with (go_at_fn g;refine(HC _ hH.out.1).mono ?_;rintro e w2 ⟨rfl,hb⟩;have L2:=Lib.hid (hH.out.1.trans (hb.mono hH.out.1.size));clear hb)
    go_ret
    refine⟨⟨_,rfl,?_⟩,L2.out⟩
    have:l.any p=true:=List.any_eq_true.2 ⟨y,List.mem_of_getElem? HY.out,HE.out⟩
    rw[this]
    exact decide_eq_true (by omega)
  ·go_wp2_with fail
   go_ret
   refine⟨⟨_,rfl,?_⟩,hH.out.1⟩
   have:l.any p=false:=by
    rw[List.any_eq_false]
    intro x hx
    obtain⟨i,hi⟩:=List.mem_iff_getElem?.1 hx
    rw[hH.out.2 i x (by have:=(List.getElem?_eq_some_iff.1 hi).1;have:=hlen.out;omega) hi];simp
   rw[this]
   rfl
theorem contains_any {A:Option Addr} {n c:Nat} {l:List Ex} {w:World} (h:RowL w A n c l) (g:Nat) (lb:Array Value) (eg:∀args w,(callFunc g args).run Tryz.prog w= .ok (.enter g args) w) (p:Ex→Bool) (hp:PredL g lb p w) (hq:∀x∈l,MayX x):
  Calls Tryz.prog 171 #[.slice A n c,.func (.func g) #[] lb] w fun e w'=>e= .returned (.bool (l.any p))∧Below w.heap.size w w':=by
 have HI:=Lib.hid (index_any h g lb eg p hp hq)
 clear h hp eg hq
 go_enter Tryz.func171,Tryz.ntmps171
 go_wp2_with fail
 refine HI.out.mono ?_
 rintro e w2 ⟨⟨r,rfl,hr⟩,hb⟩
 have HRR:=Lib.hid hr
 have HB:=Lib.hid hb
 clear hr hb
 go_wp2_with fail
 go_ret
 exact⟨by rw[←HRR.out];rfl,HB.out⟩
theorem search_any {n:Nat} {w:World} (g:Nat) (lb:Array Value) (eg:∀args w,(callFunc g args).run Tryz.prog w= .ok (.enter g args) w) (p:Nat→Bool) (hn:n≤140737488351232)
  (hf:∀(W:World) (i:Nat),i<n→Below w.heap.size w W→Calls Tryz.prog g (#[.int .i64 i]++lb) W fun e w'=>e= .returned (.bool (p i))∧Below W.heap.size W w')
  (hm:∀a b,a≤b→b<n→p a=true→p b=true):
  Calls Tryz.prog 118 #[.int .i64 n,.func (.func g) #[] lb] w fun e w'=>(∃k:Nat,e= .returned (.int .i64 k)∧k≤n∧(∀t,t<k→p t=false)∧(∀t,k≤t→t<n→p t=true))∧Below w.heap.size w w':=by
 have HF:=Lib.hid hf
 have HM:=Lib.hid hm
 clear hf hm
 go_enter Tryz.func118,Tryz.ntmps118
 go_wp2
 go_loopg [5,6] n (fun kx s5 s6 wr=>∃lo hi:Nat,s5= .int .i64 lo∧s6= .int .i64 hi∧lo≤hi∧hi≤n∧hi-lo≤kx∧Hid (Below w.heap.size w wr∧(∀t,t<lo→p t=false)∧(∀t,hi≤t→t<n→p t=true)))
 case atStart=>exact⟨0,n,rfl,rfl,Nat.zero_le _,Nat.le_refl _,by omega,Below.refl _ _,fun t ht=>absurd ht (Nat.not_lt_zero _),fun t h1 h2=>by omega⟩
 case round=>
  obtain⟨lo,hi,rfl,rfl,hlh,hin,hgg,hH⟩:=hrel
  by_cases hlt:lo<hi
  ·have hc:=HF.out wr ((lo+hi)/2) (by omega) hH.out.1
   rw[show(((lo+hi)/2:Nat):Int)=((lo:Int)+(hi:Int))/2 by omega] at hc
   cases hp:p ((lo+hi)/2)<;>rw[hp] at hc
   ·have HP:=Lib.hid hp
    have HC:=Lib.hid hc
    clear hp hc
    go_wp2_with (go_at_fn g;refine HC.out.mono ?_;rintro e w2 ⟨rfl,hb⟩;have L2:=Lib.hid (hH.out.1.trans (hb.mono hH.out.1.size));clear hb)
    go_roundg (hi-((lo+hi)/2+1))
    case measure=>omega
    case rel=>
     refine⟨(lo+hi)/2+1,hi,by rw[show((lo:Int)+(hi:Int))/2+1=(((lo+hi)/2+1:Nat):Int) by omega],rfl,by omega,hin,Nat.le_refl _,L2.out,fun t ht=> ?_,hH.out.2.2⟩
     cases h:p t with
     |false=>rfl
     |true=>have:=HM.out t ((lo+hi)/2) (by omega) (by omega) h;rw[HP.out] at this;cases this
   ·have HP:=Lib.hid hp
    have HC:=Lib.hid hc
    clear hp hc
    go_wp2_with (go_at_fn g;refine HC.out.mono ?_;rintro e w2 ⟨rfl,hb⟩;have L2:=Lib.hid (hH.out.1.trans (hb.mono hH.out.1.size));clear hb)
    go_roundg ((lo+hi)/2-lo)
    case measure=>omega
    case rel=>
     exact⟨lo,(lo+hi)/2,rfl,by rw[show((lo:Int)+(hi:Int))/2=(((lo+hi)/2:Nat):Int) by omega],by omega,by omega,Nat.le_refl _,L2.out,hH.out.2.1,fun t ht htn=>HM.out ((lo+hi)/2) t ht htn HP.out⟩
  ·obtain rfl:hi=lo:=by omega
   go_wp2
   go_ret
   exact⟨⟨hi,rfl,hin,hH.out.2.1,hH.out.2.2⟩,hH.out.1⟩
end Ext
end
section
open Go.RowKit Mem
namespace Ext
theorem add1_any {A:Option Addr} {n c:Nat} {l:List Ex} {a:Int} {g q i:Nat} {x:Ex} {w1:World} (h:RowL w1 A n c l) (hm:MayX x) (hi:i<n) (hx:l[i]? =some x) (hg:OneBox w1 g 30 (.slice A n c)) (hq:OneBox w1 q 3 (.int .i64 a)):
  Calls Tryz.prog 119 #[.int .i64 i,.pointer (some ⟨g,0,none⟩),.pointer (some ⟨q,0,none⟩)] w1 fun e w'=>e= .returned (.bool (decide (a<x.en)))∧Below w1.heap.size w1 w':=by
 obtain⟨b,o,hA,hbl,hcc⟩:=RowS.ext h hx
 subst hA
 have HS:=fun W (hW:Below w1.heap.size w1 W)=>And.intro (hcc W (hW.block _ hbl)) (And.intro (OneBox.cells (Cells.below hg hW)) (OneBox.cells (Cells.below hq hW)))
 have HE:=fun w=>Lib.hid (end_any x hm w)
 have L1:Hid (Below w1.heap.size w1 w1):=Below.refl _ _
 have M1:Hid (Below w1.heap.size w1 w1):=Below.refl _ _
 have hk0:(0:Int)≤(i:Int):=by omega
 have hkn:(i:Int)<(n:Int):=by omega
 clear h hx hg hq hcc hm
 go_enter Tryz.func119,Tryz.ntmps119
 go_upto_region 1 with fail
 have L2:=Lib.hid (L1.out.drew)
 have M2:=Lib.hid (M1.out.drew)
 refine wp_region_held_drew (S:=fun W=>(W.cell? ⟨b,o+i*5,none⟩=some (.int .i64 x.lba)∧W.cell? ⟨b,o+i*5+1,none⟩=some (.int .i64 x.n)∧W.cell? ⟨b,o+i*5+2,none⟩=some (.int .i64 x.ver)∧W.cell? ⟨b,o+i*5+3,none⟩=some (.int .i64 x.zone)∧W.cell? ⟨b,o+i*5+4,none⟩=some (.int .i64 x.off))∧W.cell? ⟨g,0,none⟩=some (.slice (some ⟨b,o,none⟩) n c)∧W.cell? ⟨q,0,none⟩=some (.int .i64 a)) (by kernel_rfl) (HS _ M2.out) (fun hHeld=> ?_)
 generalize w1.drew=w2 at*
 clear L1 M1
 refine Reg.tk 0 rfl ?_
 refine Reg.tk 1 rfl ?_
 refine Reg.tk 2 rfl ?_
 refine Reg.tk 3 rfl ?_
 refine Reg.tk 5 rfl ?_
 refine Reg.step 4 rfl (by kernel_rfl) (by rfl) (fun K hK=> ?_)
 go_simp
 refine(HE w2).out.mono ?_
 rintro e' w3 ⟨rfl,hb⟩
 have L3:=Lib.hid (L2.out.trans (hb.mono L2.out.size))
 have M3:=Lib.hid (M2.out.trans (hb.mono M2.out.size))
 clear hb L2 M2
 refine hK.out _ _ (HS _ M3.out) (fun hHeld=> ?_)
 clear hK K
 (try simp only[Act.put,List.setIfInBounds_toArray,List.set_cons_zero,List.set_cons_succ])
 refine Reg.tk 6 rfl ?_
 refine Reg.tk 7 rfl ?_
 refine wpAnyH_done (by kernel_rfl) ?_ _
 clear hHeld
 go_wp2_with fail
 go_ret
 exact⟨rfl,L3.out⟩
theorem add2_any {A:Option Addr} {n c:Nat} {l:List Ex} {a:Int} {g q i:Nat} {x:Ex} {w1:World} (h:RowL w1 A n c l) (hi:i<n) (hx:l[i]? =some x) (hg:OneBox w1 g 30 (.slice A n c)) (hq:OneBox w1 q 3 (.int .i64 a)):
  Calls Tryz.prog 120 #[.int .i64 i,.pointer (some ⟨g,0,none⟩),.pointer (some ⟨q,0,none⟩)] w1 fun e w'=>e= .returned (.bool (decide (a≤x.lba)))∧Below w1.heap.size w1 w':=by
 obtain⟨b,o,hA,hbl,hcc⟩:=RowS.ext h hx
 subst hA
 have HS:=fun W (hW:Below w1.heap.size w1 W)=>And.intro (hcc W (hW.block _ hbl)) (And.intro (OneBox.cells (Cells.below hg hW)) (OneBox.cells (Cells.below hq hW)))
 have L1:Hid (Below w1.heap.size w1 w1):=Below.refl _ _
 have M1:Hid (Below w1.heap.size w1 w1):=Below.refl _ _
 have hk0:(0:Int)≤(i:Int):=by omega
 have hkn:(i:Int)<(n:Int):=by omega
 clear h hx hg hq hcc
 go_enter Tryz.func120,Tryz.ntmps120
 go_upto_region 1 with fail
 have L2:=Lib.hid (L1.out.drew)
 have M2:=Lib.hid (M1.out.drew)
 refine wp_region_held_drew (S:=fun W=>(W.cell? ⟨b,o+i*5,none⟩=some (.int .i64 x.lba)∧W.cell? ⟨b,o+i*5+1,none⟩=some (.int .i64 x.n)∧W.cell? ⟨b,o+i*5+2,none⟩=some (.int .i64 x.ver)∧W.cell? ⟨b,o+i*5+3,none⟩=some (.int .i64 x.zone)∧W.cell? ⟨b,o+i*5+4,none⟩=some (.int .i64 x.off))∧W.cell? ⟨g,0,none⟩=some (.slice (some ⟨b,o,none⟩) n c)∧W.cell? ⟨q,0,none⟩=some (.int .i64 a)) (by kernel_rfl) (HS _ M2.out) (fun hHeld=> ?_)
 generalize w1.drew=w2 at*
 clear L1 M1
 refine Reg.tk 0 rfl ?_
 refine Reg.tk 1 rfl ?_
 refine Reg.tk 2 rfl ?_
 refine Reg.tk 3 rfl ?_
 refine Reg.tk 4 rfl ?_
 refine Reg.tk 5 rfl ?_
 refine Reg.tk 6 rfl ?_
 refine Reg.tk 7 rfl ?_
 refine wpAnyH_done (by kernel_rfl) ?_ _
 clear hHeld
 go_wp2_with fail
 go_ret
 exact⟨rfl,L2.out⟩
theorem three_boxes (w:World) (A:Option Addr) (n c:Nat) (a b:Int):Hid (Below w.heap.size w (((w.alloc (.cells #[.slice A n c] 30)).alloc (.cells #[.int .i64 a] 3)).alloc (.cells #[.int .i64 b] 3)))∧Hid (OneBox (((w.alloc (.cells #[.slice A n c] 30)).alloc (.cells #[.int .i64 a] 3)).alloc (.cells #[.int .i64 b] 3)) w.heap.size 30 (.slice A n c))∧Hid (OneBox (((w.alloc (.cells #[.slice A n c] 30)).alloc (.cells #[.int .i64 a] 3)).alloc (.cells #[.int .i64 b] 3)) (w.heap.size+1) 3 (.int .i64 a))∧Hid (OneBox (((w.alloc (.cells #[.slice A n c] 30)).alloc (.cells #[.int .i64 a] 3)).alloc (.cells #[.int .i64 b] 3)) (w.heap.size+2) 3 (.int .i64 b)):=by
 have A1:Below w.heap.size w (w.alloc (.cells #[.slice A n c] 30)):=(Below.refl _ w).alloc (Nat.le_refl _) _
 have A2:Below w.heap.size w ((w.alloc (.cells #[.slice A n c] 30)).alloc (.cells #[.int .i64 a] 3)):=A1.alloc A1.size _
 have h1:=Cells.new (w.alloc (.cells #[.slice A n c] 30)) #[.int .i64 a] 3
 have h2:=Cells.new ((w.alloc (.cells #[.slice A n c] 30)).alloc (.cells #[.int .i64 a] 3)) #[.int .i64 b] 3
 refine⟨A2.alloc A2.size _,Cells.alloc (Cells.alloc (Cells.new _ _ _) _) _,?_,?_⟩
 ·show OneBox _ _ _ _
  refine Cells.alloc ?_ _
  simpa using h1
 ·show OneBox _ _ _ _
  simpa using h2
def Added (base:Nat) (w:World) (s:Value) (out:List Ex) (en:Ending) (w':World):Prop:=
 (∃B m d,en= .returned (.slice B m d)∧OwnsL base w' (.slice B m d) m out∧∀k,(Value.slice B m d).ownBlock=some k→s.ownBlock=some k∨w.heap.size≤k)∧Below base w w'∧
  ∀k,k<w.heap.size→s.ownBlock≠some k→w'.heap[k]? =w.heap[k]?
theorem addParts_any {base:Nat} {A X:Option Addr} {n c j d:Nat} {l out:List Ex} {f:Int} {w:World} (a b:Int) (hO:OwnsL base w (.slice X j d) j out) (hbase:base≤w.heap.size) (hL:∀W,Below base w W→RowL W A n c l)
  (hl:Ok f l) (hj:j≤10000000) (hn:n≤10000000) (ha:0≤a) (ha2:a≤1099511627776) (hb:0≤b) (hb2:b≤1099511627776):
  Calls Tryz.prog 82 #[.slice X j d,.slice A n c,.int .i64 a,.int .i64 b] w (Added base w (.slice X j d) (out++clips a b l)):=by
 obtain⟨L1,B5,B6,B7⟩:=three_boxes w A n c a b
 have HL:=Lib.hid hL
 have HOK:=Lib.hid hl
 have HAB:=Lib.hid (And.intro ha (And.intro ha2 (And.intro hb hb2)))
 have HO:=Lib.hid hO
 have hbig:n≤140737488351232:=by omega
 have HLT:=Lib.hid (OwnsL.lt hO)
 have HBS:=Lib.hid hbase
 have hlen:=Lib.hid (hL w (Below.refl _ _)).len
 have hcap:=(hL w (Below.refl _ _)).cap
 have hjo:=Lib.hid hO.2
 clear hO hL hl ha ha2 hb hb2 hbase
 go_enter Tryz.func82,Tryz.ntmps82
 go_upto_region 1 with fail
 generalize((w.alloc (.cells #[.slice A n c] 30)).alloc (.cells #[.int .i64 a] 3)).alloc (.cells #[.int .i64 b] 3)=w1 at*
 have m5:=OneBox.cells B5.out
 have m6:=OneBox.cells B6.out
 have m7:=OneBox.cells B7.out
 have LB1:Hid (Below base w w1):=L1.out.mono HBS.out
 rcases e1:decide (b≤a)
 ·have hab:=of_decide_eq_false e1
  have HLT2:=Lib.hid (show a<b by omega)
  clear hab
  obtain⟨p,hp⟩:∃p:Nat→Bool,∀i x,l[i]? =some x→p i=decide (a<x.en):=⟨fun i=>match l[i]? with|some x=>decide (a<x.en)|none=>false,fun i x hx=>by simp[hx]⟩
  obtain⟨r,hr⟩:∃r:Nat→Bool,∀i x,l[i]? =some x→r i=decide (b≤x.lba):=⟨fun i=>match l[i]? with|some x=>decide (b≤x.lba)|none=>false,fun i x hx=>by simp[hx]⟩
  have HP:=Lib.hid hp
  have HRR:=Lib.hid hr
  clear hp hr
  have HS1:=Lib.hid (search_any (n:=n) (w:=w1) 119 #[.pointer (some ⟨w.heap.size,0,none⟩),.pointer (some ⟨w.heap.size+1,0,none⟩)] (enters_of Tryz.func119 (by kernel_rfl) rfl) p hbig
   (fun W i hi hW=>by
    have hrow:=HL.out W (LB1.out.trans (hW.mono (Nat.le_trans HBS.out L1.out.size)))
    obtain⟨x,hx⟩:=hrow.get hi
    rw[HP.out i x hx]
    exact add1_any hrow (HOK.out.at_ hx).1 hi hx (Cells.below B5.out hW) (Cells.below B6.out hW))
   (fun u v huv hv hu=>by
    obtain⟨x,hx⟩:∃x,l[u]? =some x:=⟨_,List.getElem?_eq_getElem (by have:=hlen.out;omega)⟩
    obtain⟨y,hy⟩:∃y,l[v]? =some y:=⟨_,List.getElem?_eq_getElem (by have:=hlen.out;omega)⟩
    rw[HP.out u x hx,decide_eq_true_eq] at hu
    rw[HP.out v y hy,decide_eq_true_eq]
    exact Int.lt_of_lt_of_le hu (HOK.out.en_mono huv hx hy)))
  go_wp2_with fail
  refine HS1.out.mono ?_
  rintro e w2 ⟨⟨i1,rfl,hi1,hlo1,hhi1⟩,hb⟩
  have L2:=Lib.hid (L1.out.trans (hb.mono L1.out.size))
  have LB2:Hid (Below base w w2):=LB1.out.trans (hb.mono (Nat.le_trans HBS.out L1.out.size))
  have C5:=Lib.hid (Cells.below B5.out hb)
  have C6:=Lib.hid (Cells.below B6.out hb)
  have C7:=Lib.hid (Cells.below B7.out hb)
  have HI1:=Lib.hid (And.intro hi1 (And.intro hlo1 hhi1))
  clear hb hi1 hlo1 hhi1 m5 m6 m7 B5 B6 B7 HS1
  have m5:=OneBox.cells C5.out
  have m6:=OneBox.cells C6.out
  have m7:=OneBox.cells C7.out
  have HS2:=Lib.hid (search_any (n:=n) (w:=w2) 120 #[.pointer (some ⟨w.heap.size,0,none⟩),.pointer (some ⟨w.heap.size+2,0,none⟩)] (enters_of Tryz.func120 (by kernel_rfl) rfl) r hbig
   (fun W i hi hW=>by
    have hrow:=HL.out W (LB2.out.trans (hW.mono (Nat.le_trans HBS.out L2.out.size)))
    obtain⟨x,hx⟩:=hrow.get hi
    rw[HRR.out i x hx]
    exact add2_any hrow hi hx (Cells.below C5.out hW) (Cells.below C7.out hW))
   (fun u v huv hv hu=>by
    obtain⟨x,hx⟩:∃x,l[u]? =some x:=⟨_,List.getElem?_eq_getElem (by have:=hlen.out;omega)⟩
    obtain⟨y,hy⟩:∃y,l[v]? =some y:=⟨_,List.getElem?_eq_getElem (by have:=hlen.out;omega)⟩
    rw[HRR.out u x hx,decide_eq_true_eq] at hu
    rw[HRR.out v y hy,decide_eq_true_eq]
    exact Int.le_trans hu (HOK.out.lba_mono huv hx hy)))
  go_wp2_with fail
  refine HS2.out.mono ?_
  rintro e w3 ⟨⟨i2,rfl,hi2,hlo2,hhi2⟩,hb⟩
  have L3:=Lib.hid (L2.out.trans (hb.mono L2.out.size))
  have LB3:Hid (Below base w w3):=LB2.out.trans (hb.mono (Nat.le_trans HBS.out L2.out.size))
  have B5:=Lib.hid (Cells.below C5.out hb)
  have B6:=Lib.hid (Cells.below C6.out hb)
  have B7:=Lib.hid (Cells.below C7.out hb)
  have h1:∀t x,t<i1→l[t]? =some x→x.en≤a:=fun t x ht hx=>by
   have:=HI1.out.2.1 t ht
   rw[HP.out t x hx,decide_eq_false_iff_not] at this;omega
  have h2:∀t x,i1≤t→l[t]? =some x→a<x.en:=fun t x ht hx=>by
   have:=HI1.out.2.2 t ht (by have:=(List.getElem?_eq_some_iff.1 hx).1;have:=hlen.out;omega)
   rw[HP.out t x hx,decide_eq_true_eq] at this;exact this
  have h3:∀t x,t<i2→l[t]? =some x→x.lba<b:=fun t x ht hx=>by
   have:=hlo2 t ht
   rw[HRR.out t x hx,decide_eq_false_iff_not] at this;omega
  have h4:∀t x,i2≤t→l[t]? =some x→b≤x.lba:=fun t x ht hx=>by
   have:=hhi2 t ht (by have:=(List.getElem?_eq_some_iff.1 hx).1;have:=hlen.out;omega)
   rw[HRR.out t x hx,decide_eq_true_eq] at this;exact this
  have h12:i1≤i2:=by
   rcases Nat.lt_or_ge i2 i1 with hlt|hge
   ·obtain⟨x,hx⟩:∃x,l[i2]? =some x:=⟨_,List.getElem?_eq_getElem (by have:=hlen.out;have:=HI1.out.1;omega)⟩
    have g1:=h1 i2 x hlt hx
    have g2:=h4 i2 x (Nat.le_refl _) hx
    have g3:=en_lt (HOK.out.at_ hx).1
    have g4:=HLT2.out
    omega
   ·exact hge
  have HCL:=Lib.hid (clips_mid HLT2.out h12 h1 h2 h3 h4)
  have HTO:=Lib.hid (mid_touch h2 h3)
  obtain⟨gg,hgg⟩:=ok_mid HOK.out i1 (i2-i1)
  have HMO:=Lib.hid hgg
  have HROW:=fun W (hW:Below base w W)=>mid_row (HL.out W hW) h12 hi2
  have hin:i2≤c:=by omega
  have hsl:=fun w=>run_midL A n c i1 i2 h12 hin w
  obtain⟨q,hq⟩:∃q,q=i2-i1:=⟨_,rfl⟩
  rw[←hq] at HCL HTO HMO hsl HROW
  have hqn:q≤10000000:=by omega
  clear hq
  clear hb hlo2 hhi2 h1 h2 h3 h4 hgg m5 m6 m7 C5 C6 C7 HS2 HI1 HP HRR
  have HMID:=Lib.hid (HROW w (Below.refl _ _)).len
  have HROW2:=Lib.hid HROW
  clear HROW
  generalize(l.drop i1).take q=mid at*
  generalize tailA A c i1=TA at*
  generalize c-i1=TC at*
  have m5:=OneBox.cells B5.out
  have m6:=OneBox.cells B6.out
  have m7:=OneBox.cells B7.out
  go_upto_region 7 with(at_builtin
                        refine wpList_append_l rfl (.tmp 27) (.tmp 31) rfl rfl base (.slice X j d) j out rfl (OwnsL.low HO.out L3.out) TA q TC mid rfl (HROW2.out w3 LB3.out) (by omega) (Nat.le_trans HBS.out L3.out.size) ?_
                        intro A' c' w4 h1 h2 h3
                        have O4:=Lib.hid h1
                        have G4:=Lib.hid h2
                        have Z4:=Lib.hid h3
                        clear h1 h2 h3)
  have LB4:Hid (Below base w w4):=LB3.out.trans (below_row (OwnsL.low HO.out L3.out) G4.out (Nat.le_trans HBS.out L3.out.size))
  have W4S:Hid (w.heap.size≤w4.heap.size):=Nat.le_trans L3.out.size G4.out.size
  have OWN4:Hid (∀k,(Value.slice A' (j+q) c').ownBlock=some k→(Value.slice X j d).ownBlock=some k∨w.heap.size≤k):=fun k hk=>by
   rcases Z4.out with h|h
   ·left;rw[←h];exact hk
   ·right
    rw[hk] at h
    injection h with h
    have:=L3.out.size
    omega
  have FR4:Hid (∀k,k<w.heap.size→(Value.slice X j d).ownBlock≠some k→w4.heap[k]? =w.heap[k]?):=fun k hk hne=>
   (G4.out.block k (Nat.lt_of_lt_of_le hk L3.out.size) (fun e=>hne e.symm)).trans (L3.out.block k hk)
  rcases Nat.eq_zero_or_pos q with hq0|hq0
  ·have hmid:mid= []:=List.eq_nil_of_length_eq_zero (by rw[HMID.out,hq0])
   subst hmid hq0
   have HC:Hid (clips a b l= []):=HCL.out
   have hw1:((j+0:Nat):Int)-1=(j:Int)-1:=by omega
   have hw2:IntKind.i64.wrap ((j:Int)-1)=(j:Int)-1:=wrap_small (by omega) (by omega)
   have hd:decide ((j:Int)≤(j:Int)-1)=false:=decide_eq_false (by omega)
   go_wp2_with fail
   go_ret
   exact⟨⟨_,_,_,rfl,by rw[HC.out];exact O4.out,fun k hk=>OWN4.out k hk⟩,LB4.out,FR4.out⟩
  ·obtain⟨k,rfl⟩:∃k,q=k+1:=⟨q-1,by omega⟩
   obtain⟨y,hy⟩:∃y,mid[0]? =some y:=⟨_,List.getElem?_eq_getElem (by have:=HMID.out;omega)⟩
   have hyo:(out++mid)[j]? =some y:=by
    have:=get_out out mid 0
    rw[hjo.out,Nat.add_zero] at this
    rw[this];exact hy
   have HYM:Hid (MayX y):=HMO.out.may y (List.mem_of_getElem? hy)
   have HYO:=Lib.hid hyo
   have HY:=Lib.hid hy
   have HTY:=Lib.hid (HTO.out y (List.mem_of_getElem? hy))
   obtain⟨g,hA,hge,hgl,-,-,-⟩:=OwnsL.put O4.out hyo
   subst hA
   have HGE:=Lib.hid hge
   have OWNG:Hid ((Value.slice X j d).ownBlock=some g∨w.heap.size≤g):=OWN4.out g rfl
   have HNE:Hid (g≠w.heap.size+1∧g≠w.heap.size+2):=by
    have h3:=Cells.lt B7.out
    rcases Z4.out with h|h
    ·have:=(HLT.out g (by rw[←h];rfl)).2
     exact⟨by omega,by omega⟩
    ·have h:some g=some w3.heap.size:=h
     injection h with h
     exact⟨by omega,by omega⟩
   have BX6:Hid (OneBox w4 (w.heap.size+1) 3 (.int .i64 a)):=Cells.grown B6.out G4.out (fun e=>by have h1:=HLT.out _ e;omega)
   have BX7:Hid (OneBox w4 (w.heap.size+2) 3 (.int .i64 b)):=Cells.grown B7.out G4.out (fun e=>by have h1:=HLT.out _ e;omega)
   clear hy hyo hge hgl hq0 m5 m6 m7
   obtain⟨J,hJ⟩:∃J,J=j+k:=⟨_,rfl⟩
   generalize hM:j+(k+1)=M at*
   have HJ:=Lib.hid (And.intro hJ hM)
   have hqw:(M:Int)-1=(J:Int):=by omega
   have hw2:IntKind.i64.wrap (J:Int)=(J:Int):=wrap_small (by omega) (by omega)
   have hd:decide ((j:Int)≤(J:Int))=true:=decide_eq_true (by omega)
   have hj0:(0:Int)≤(j:Int):=by omega
   have hjn:(j:Int)<(M:Int):=by omega
   have hk0:(0:Int)≤(J:Int):=by omega
   have hkn:(J:Int)<(M:Int):=by omega
   clear hJ hM
   have hmax:=run_max2 (x:=y.lba) (y:=a)
   have HE:=fun w=>Lib.hid (end_any y HYM.out w)
   have HCUT:=fun w=>Lib.hid (cut_any y (max y.lba a) y.en HYM.out (by have:=HYM.out.1;omega) (by have:=en_le HYM.out;have:=en_lt HYM.out;have:=HAB.out;omega) (by have:=en_lt HYM.out;have:=HYM.out.1;omega) (en_le HYM.out) w)
   have L4:Hid (Below base w w4):=LB4.out
   have M4:Hid (Below w4.heap.size w4 w4):=Below.refl _ _
   have HS:=fun W (hW:Below w4.heap.size w4 W)=>And.intro (OwnsL.cells_at (OwnsL.below O4.out hW) HYO.out) (OneBox.cells (Cells.below BX6.out hW))
   go_upto_region 9 with fail
   have L5:=Lib.hid (L4.out.drew)
   have M5:=Lib.hid (M4.out.drew)
   refine RegK.start (S:=fun W=>(W.cell? ⟨g,j*5,none⟩=some (.int .i64 y.lba)∧W.cell? ⟨g,j*5+1,none⟩=some (.int .i64 y.n)∧W.cell? ⟨g,j*5+2,none⟩=some (.int .i64 y.ver)∧W.cell? ⟨g,j*5+3,none⟩=some (.int .i64 y.zone)∧W.cell? ⟨g,j*5+4,none⟩=some (.int .i64 y.off))∧W.cell? ⟨w.heap.size+1,0,none⟩=some (.int .i64 a)) 20 (by kernel_rfl) (HS _ M5.out) (fun hHeld=> ?_)
   generalize w4.drew=w5 at*
   clear L4 M4
   refine RegK.tk 0 [20,19] rfl ?_
   refine RegK.tk 1 [20,19] rfl ?_
   refine RegK.tk 2 [20,18,5,4] rfl ?_
   refine RegK.tk 3 [20,18,5,4] rfl ?_
   refine RegK.tk 4 [20,18,5] rfl ?_
   refine RegK.tk 5 [20,18] rfl ?_
   refine RegK.tk 6 [20,18,12,10,9,8] rfl ?_
   refine RegK.tk 7 [20,18,12,10,9,8] rfl ?_
   refine RegK.tk 8 [20,18,12,10,9] rfl ?_
   refine RegK.tk 9 [20,18,12,10] rfl ?_
   refine RegK.tk 10 [20,18,12] rfl ?_
   refine RegK.tk 11 [20,18,12] rfl ?_
   refine RegK.tk 12 [20,18] rfl ?_
   refine RegK.tk 13 [20,18,17,16,15] rfl ?_
   refine RegK.tk 14 [20,18,17,16,15] rfl ?_
   refine RegK.tk 15 [20,18,17,16] rfl ?_
   refine RegK.tk 16 [20,18,17] rfl ?_
   refine RegK.step 17 rfl (by kernel_rfl) (by rfl) (fun K hK=> ?_)
   go_simp
   refine(HE w5).out.mono ?_
   rintro e' w6 ⟨rfl,hb⟩
   have L6:=Lib.hid (L5.out.trans (hb.mono (Nat.le_trans HBS.out L5.out.size)))
   have M6:=Lib.hid (M5.out.trans (hb.mono M5.out.size))
   clear hb L5 M5
   refine hK.out _ _ (fun _=>HS _ M6.out) ?_
   clear hHeld
   have hHeld:=HS _ M6.out
   clear hK K
   (try simp only[Act.put,List.setIfInBounds_toArray,List.set_cons_zero,List.set_cons_succ])
   refine RegK.step 18 rfl (by kernel_rfl) (by rfl) (fun K hK=> ?_)
   go_simp
   refine(HCUT w6).out.mono ?_
   rintro e' w7 ⟨rfl,hb⟩
   have L7:=Lib.hid (L6.out.trans (hb.mono (Nat.le_trans HBS.out L6.out.size)))
   have M7:=Lib.hid (M6.out.trans (hb.mono M6.out.size))
   clear hb L6 M6
   refine hK.out _ _ (fun _=>HS _ M7.out) ?_
   clear hHeld
   have hHeld:=HS _ M7.out
   clear hK K
   (try simp only[Act.put,List.setIfInBounds_toArray,List.set_cons_zero,List.set_cons_succ])
   refine RegK.tk 19 [20] rfl ?_
   obtain⟨⟨n0,n1,n2,n3,n4⟩,m6⟩:=hHeld
   have OW:=Lib.hid (OwnsL.below O4.out M7.out)
   obtain⟨f0,f1,f2,f3,f4⟩:=OwnsL.frozen5 OW.out j
   refine RegK.step 20 rfl (by kernel_rfl) (by rfl) (fun K hK=> ?_)
   go_simp
   refine hK.out _ _ (fun h=>absurd rfl h) ?_
   clear hK K
   (try simp only[Act.put,List.setIfInBounds_toArray,List.set_cons_zero,List.set_cons_succ])
   refine RegK.done (by kernel_rfl) ?_ _
   have HC1:Hid (MayX (cutE y (max y.lba a) y.en)):=by
    have h1:=clip_may (a:=a) (b:=y.en) HYM.out HTY.out.1 (en_lt HYM.out) HTY.out.1
    unfold clip at h1
    rw[show min y.en y.en=y.en by omega] at h1
    exact h1
   have O5:=Lib.hid (OwnsL.put5 OW.out HYO.out (cutE y (max y.lba a) y.en))
   have hset:(out++mid).set j (cutE y (max y.lba a) y.en)=out++mid.set 0 (cutE y (max y.lba a) y.en):=by
    have:=set_out out mid 0 (cutE y (max y.lba a) y.en)
    rwa [hjo.out,Nat.add_zero] at this
   rw[hset] at O5
   have BG5:=Lib.hid ((But.of_below M7.out).trans (But.set5 w7 g (j*5) (j*5+1) (j*5+2) (j*5+3) (j*5+4) (.int .i64 (cutE y (max y.lba a) y.en).lba) (.int .i64 (cutE y (max y.lba a) y.en).n) (.int .i64 (cutE y (max y.lba a) y.en).ver) (.int .i64 (cutE y (max y.lba a) y.en).zone) (.int .i64 (cutE y (max y.lba a) y.en).off)))
   have LB5:=Lib.hid (below5 L7.out HGE.out (j*5) (j*5+1) (j*5+2) (j*5+3) (j*5+4) (.int .i64 (cutE y (max y.lba a) y.en).lba) (.int .i64 (cutE y (max y.lba a) y.en).n) (.int .i64 (cutE y (max y.lba a) y.en).ver) (.int .i64 (cutE y (max y.lba a) y.en).zone) (.int .i64 (cutE y (max y.lba a) y.en).off))
   have BY7:=Lib.hid (Cells.other5 (Cells.below BX7.out M7.out) HNE.out.2 (j*5) (j*5+1) (j*5+2) (j*5+3) (j*5+4) (.int .i64 (cutE y (max y.lba a) y.en).lba) (.int .i64 (cutE y (max y.lba a) y.en).n) (.int .i64 (cutE y (max y.lba a) y.en).ver) (.int .i64 (cutE y (max y.lba a) y.en).zone) (.int .i64 (cutE y (max y.lba a) y.en).off))
   clear n0 n1 n2 n3 n4 m6 f0 f1 f2 f3 f4 hset OW HE HCUT hmax L7 M7 BX6 BX7 O4 G4 Z4
   generalize HCY:cutE y (max y.lba a) y.en=c1 at*
   generalize((((w7.setCell ⟨g,j*5,none⟩ (.int .i64 c1.lba)).setCell ⟨g,j*5+1,none⟩ (.int .i64 c1.n)).setCell ⟨g,j*5+2,none⟩ (.int .i64 c1.ver)).setCell ⟨g,j*5+3,none⟩ (.int .i64 c1.zone)).setCell ⟨g,j*5+4,none⟩ (.int .i64 c1.off)=w20 at*
   have HCY2:=Lib.hid HCY
   clear HCY
   obtain⟨z,hz⟩:∃z,(mid.set 0 c1)[k]? =some z:=⟨_,List.getElem?_eq_getElem (by rw[List.length_set];have:=HMID.out;omega)⟩
   have hzo:(out++mid.set 0 c1)[j+k]? =some z:=by rw[←hjo.out,get_out];exact hz
   have HZM:Hid (MayX z):=by
    rcases List.mem_or_eq_of_mem_set (List.mem_of_getElem? hz) with h|h
    ·exact HMO.out.may z h
    ·rw[h];exact HC1.out
   have HFIX:Hid ((mid.set 0 c1).set k (cutE z z.lba (min z.en b))=clips a b l):=by
    show _=_
    rw[HCL.out]
    have h1:=HCY2.out
    subst h1
    exact fix_mid HMO.out HTO.out HMID.out HY.out hz
   have hset:(out++mid.set 0 c1).set (j+k) (cutE z z.lba (min z.en b))=out++clips a b l:=by rw[←hjo.out,set_out,HFIX.out]
   have HSET:=Lib.hid hset
   have HZO:=Lib.hid hzo
   rw[←HJ.out.1] at HZO HSET
   clear hset hz hzo
   have hmin:=run_min2 (x:=z.en) (y:=b)
   have HE:=fun w=>Lib.hid (end_any z HZM.out w)
   have HCUT:=fun w=>Lib.hid (cut_any z z.lba (min z.en b) HZM.out HZM.out.1 (by have:=en_lt HZM.out;have:=en_le HZM.out;omega) (by have:=en_lt HZM.out;have:=HZM.out.1;have:=HAB.out;omega) (by have:=en_le HZM.out;omega) w)
   have L20:Hid (Below base w w20):=LB5.out
   have M20:Hid (Below w20.heap.size w20 w20):=Below.refl _ _
   have HS:=fun W (hW:Below w20.heap.size w20 W)=>And.intro (OwnsL.cells_at (OwnsL.below O5.out hW) HZO.out) (OneBox.cells (Cells.below BY7.out hW))
   go_upto_region 10 with fail
   have L21:=Lib.hid (L20.out.drew)
   have M21:=Lib.hid (M20.out.drew)
   refine RegK.start (S:=fun W=>(W.cell? ⟨g,J*5,none⟩=some (.int .i64 z.lba)∧W.cell? ⟨g,J*5+1,none⟩=some (.int .i64 z.n)∧W.cell? ⟨g,J*5+2,none⟩=some (.int .i64 z.ver)∧W.cell? ⟨g,J*5+3,none⟩=some (.int .i64 z.zone)∧W.cell? ⟨g,J*5+4,none⟩=some (.int .i64 z.off))∧W.cell? ⟨w.heap.size+2,0,none⟩=some (.int .i64 b)) 20 (by kernel_rfl) (HS _ M21.out) (fun hHeld=> ?_)
   generalize w20.drew=w21 at*
   clear L20 M20
   refine RegK.tk 0 [20,19] rfl ?_
   refine RegK.tk 1 [20,19] rfl ?_
   refine RegK.tk 2 [20,18,5,4] rfl ?_
   refine RegK.tk 3 [20,18,5,4] rfl ?_
   refine RegK.tk 4 [20,18,5] rfl ?_
   refine RegK.tk 5 [20,18] rfl ?_
   refine RegK.tk 6 [20,18,10,9,8] rfl ?_
   refine RegK.tk 7 [20,18,10,9,8] rfl ?_
   refine RegK.tk 8 [20,18,10,9] rfl ?_
   refine RegK.tk 9 [20,18,10] rfl ?_
   refine RegK.tk 10 [20,18] rfl ?_
   refine RegK.tk 11 [20,18,17,15,14,13] rfl ?_
   refine RegK.tk 12 [20,18,17,15,14,13] rfl ?_
   refine RegK.tk 13 [20,18,17,15,14] rfl ?_
   refine RegK.tk 14 [20,18,17,15] rfl ?_
   refine RegK.tk 16 [20,18,17] rfl ?_
   refine RegK.step 15 rfl (by kernel_rfl) (by rfl) (fun K hK=> ?_)
   go_simp
   refine(HE w21).out.mono ?_
   rintro e' w22 ⟨rfl,hb⟩
   have L22:=Lib.hid (L21.out.trans (hb.mono (Nat.le_trans HBS.out L21.out.size)))
   have M22:=Lib.hid (M21.out.trans (hb.mono M21.out.size))
   clear hb L21 M21
   refine hK.out _ _ (fun _=>HS _ M22.out) ?_
   clear hHeld
   have hHeld:=HS _ M22.out
   clear hK K
   (try simp only[Act.put,List.setIfInBounds_toArray,List.set_cons_zero,List.set_cons_succ])
   refine RegK.tk 17 [20,18] rfl ?_
   refine RegK.step 18 rfl (by kernel_rfl) (by rfl) (fun K hK=> ?_)
   go_simp
   refine(HCUT w22).out.mono ?_
   rintro e' w23 ⟨rfl,hb⟩
   have L23:=Lib.hid (L22.out.trans (hb.mono (Nat.le_trans HBS.out L22.out.size)))
   have M23:=Lib.hid (M22.out.trans (hb.mono M22.out.size))
   clear hb L22 M22
   refine hK.out _ _ (fun _=>HS _ M23.out) ?_
   clear hHeld
   have hHeld:=HS _ M23.out
   clear hK K
   (try simp only[Act.put,List.setIfInBounds_toArray,List.set_cons_zero,List.set_cons_succ])
   refine RegK.tk 19 [20] rfl ?_
   obtain⟨⟨n0,n1,n2,n3,n4⟩,m7⟩:=hHeld
   have OW:=Lib.hid (OwnsL.below O5.out M23.out)
   obtain⟨f0,f1,f2,f3,f4⟩:=OwnsL.frozen5 OW.out J
   refine RegK.step 20 rfl (by kernel_rfl) (by rfl) (fun K hK=> ?_)
   go_simp
   refine hK.out _ _ (fun h=>absurd rfl h) ?_
   clear hK K
   (try simp only[Act.put,List.setIfInBounds_toArray,List.set_cons_zero,List.set_cons_succ])
   refine RegK.done (by kernel_rfl) ?_ _
   have O6:=Lib.hid (OwnsL.put5 OW.out HZO.out (cutE z z.lba (min z.en b)))
   rw[HSET.out] at O6
   have BG6:=Lib.hid (BG5.out.trans ((But.of_below M23.out).trans (But.set5 w23 g (J*5) (J*5+1) (J*5+2) (J*5+3) (J*5+4) (.int .i64 (cutE z z.lba (min z.en b)).lba) (.int .i64 (cutE z z.lba (min z.en b)).n) (.int .i64 (cutE z z.lba (min z.en b)).ver) (.int .i64 (cutE z z.lba (min z.en b)).zone) (.int .i64 (cutE z z.lba (min z.en b)).off))))
   have LB6:=Lib.hid (below5 L23.out HGE.out (J*5) (J*5+1) (J*5+2) (J*5+3) (J*5+4) (.int .i64 (cutE z z.lba (min z.en b)).lba) (.int .i64 (cutE z z.lba (min z.en b)).n) (.int .i64 (cutE z z.lba (min z.en b)).ver) (.int .i64 (cutE z z.lba (min z.en b)).zone) (.int .i64 (cutE z z.lba (min z.en b)).off))
   clear n0 n1 n2 n3 n4 m7 f0 f1 f2 f3 f4 OW
   go_wp2_with fail
   go_ret
   refine⟨⟨_,_,_,rfl,O6.out,fun k hk=> ?_⟩,LB6.out,fun k hk hne=> ?_⟩
   ·have hk:some g=some k:=hk
    injection hk with hk
    subst hk
    exact OWNG.out
   ·have hkg:k≠g:=fun e=>by
      subst e
      rcases OWNG.out with h|h
      ·exact hne h
      ·omega
    exact(BG6.out.block (Nat.lt_of_lt_of_le hk W4S.out) hkg).trans (FR4.out k hk hne)
 ·have hab:=of_decide_eq_true e1
  have HC:=Lib.hid (clips_none hab l)
  clear hab
  go_wp2_with fail
  go_ret
  exact⟨⟨_,_,_,rfl,by rw[HC.out,List.append_nil];exact OwnsL.low HO.out L1.out,fun k hk=> .inl hk⟩,LB1.out,fun k hk _=>L1.out.block k hk⟩
end Ext
end
section
open Go.RowKit Mem
namespace Ext
theorem run_make_ext (w:World) (n:Nat) (hn:n≤10000000):(Instr.makeSlice 30 (.int .i64 0) (.int .i64 (n:Int))).run Tryz.prog w= .ok (.slice (some ⟨w.heap.size,0,none⟩) 0 n) (w.alloc (.cells (madeCells #[.int .i64 0,.int .i64 0,.int .i64 0,.int .i64 0,.int .i64 0] (n*5)) 60)):=by
 obtain⟨i,hi,hz0,hz1,hz2⟩:=info_parts info_ext
 have h:=run_make (P:=Tryz.prog) w 30 60 i _ Tryz.underlying30 hi hz0 .i64 .i64 0 (n:Int) (by omega) (by omega) (by rw[hz2];omega) (by omega)
 rw[hz1] at h
 exact h
theorem made_own (w:World) (n:Nat) (hn:n≤10000000):OwnsL w.heap.size (w.alloc (.cells (madeCells #[.int .i64 0,.int .i64 0,.int .i64 0,.int .i64 0,.int .i64 0] (n*5)) 60)) (.slice (some ⟨w.heap.size,0,none⟩) 0 n) 0 []:=
 ⟨World.ownsRow_made w _ n (Nat.le_refl _) (by unfold maxLen;omega) (size_madeCells _ _),rfl⟩
theorem snoc_cases (l:List Ex):l= []∨∃a z,l=a++ [z]:=by
 rcases List.eq_nil_or_concat l with h|⟨a,z,h⟩
 ·exact .inl h
 ·exact .inr ⟨a,z,by simpa using h⟩
theorem joinF_step {l:List Ex} {k:Nat} {x:Ex} (hx:l[k]? =some x):joinF [] (l.take (k+1))=pushE (joinF [] (l.take k)) x:=by
 rw[take_snoc hx,joinF_app];rfl
theorem joinF_ok {l:List Ex} (h:Ok 0 l) (k:Nat):Ok 0 (joinF [] (l.take k)):=by
 rw[joinF_eq]
 rw[←List.take_append_drop k l] at h
 exact join_ok (ok_split h).1
theorem joined_any {A:Option Addr} {n c:Nat} {l:List Ex} {w:World} (h:RowL w A n c l) (hok:Ok 0 l) (hn:n≤3000000):
  Calls Tryz.prog 104 #[.slice A n c] w fun e w'=>(∃B m d,e= .returned (.slice B m d)∧OwnsL w.heap.size w' (.slice B m d) m (joinE l))∧Below w.heap.size w w':=by
 have HR:=Lib.hid h
 have hbig:=h.big
 have hlen:=Lib.hid h.len
 have HOK:=Lib.hid hok
 have hmk:=fun w=>run_make_ext w n (by omega)
 have HMO:=Lib.hid (made_own w n (by omega))
 have HMB:Hid (Below w.heap.size w (w.alloc (.cells (madeCells #[.int .i64 0,.int .i64 0,.int .i64 0,.int .i64 0,.int .i64 0] (n*5)) 60))):=(Below.refl _ w).alloc (Nat.le_refl _) _
 clear h hok
 go_enter Tryz.func104,Tryz.ntmps104
 go_wp2_with fail
 clear hmk
 go_loopw [3,5,6,12] (fun u _ _ i wr=>∃(k:Nat) (B:Option Addr) (m d:Nat),i= .int .i64 k∧u= .slice B m d∧k≤n∧m≤k∧Hid (Below w.heap.size w wr∧OwnsL w.heap.size wr (.slice B m d) m (joinF [] (l.take k)))) (fun _ _ _ i _=>n-(intOf i).toNat)
 case atStart=>exact⟨0,some ⟨w.heap.size,0,none⟩,0,n,rfl,rfl,by omega,by omega,HMB.out,HMO.out⟩
 case round=>
  obtain⟨k,B,m,d,rfl,rfl,hk,hm,hH⟩:=hrel
  by_cases hlt:k<n
  ·obtain⟨x,hx⟩:=HR.out.get hlt
   obtain⟨b,o,hA,d0,d1,d2,d3,d4⟩:=RowS.ext_at (HR.out.below hH.out.1) hx
   subst hA
   obtain⟨hmx,-⟩:=HOK.out.at_ hx
   have HMX:=Lib.hid hmx
   have HJ:=Lib.hid (joinF_step hx)
   have HJO:=Lib.hid (joinF_ok HOK.out k)
   have HJN:=Lib.hid (joinF_ok HOK.out (k+1))
   have hk0:(0:Int)≤(k:Int):=by omega
   have hkn:(k:Int)<(n:Int):=by omega
   have hmk:m≤3000000:=by omega
   clear hx hmx
   generalize joinF [] (l.take k)=J at hH HJ HJO
   generalize hJE:joinF [] (l.take (k+1))=J' at HJ HJN
   have HJE:=Lib.hid hJE
   clear hJE
   have A1:Hid (Below wr.heap.size wr (wr.alloc (.cells #[.int .i64 x.lba,.int .i64 x.n,.int .i64 x.ver,.int .i64 x.zone,.int .i64 x.off] 60))):=(Below.refl _ wr).alloc (Nat.le_refl _) _
   have B1:Hid (LBox (wr.alloc (.cells #[.int .i64 x.lba,.int .i64 x.n,.int .i64 x.ver,.int .i64 x.zone,.int .i64 x.off] 60)) wr.heap.size x):=Cells.new _ _ _
   obtain⟨n0,n1,n2,n3,n4⟩:=LBox.cells B1.out
   go_upto_region 5 with fail
   generalize wr.alloc (.cells #[.int .i64 x.lba,.int .i64 x.n,.int .i64 x.ver,.int .i64 x.zone,.int .i64 x.off] 60)=w1 at*
   clear d0 d1 d2 d3 d4
   have O1:=Lib.hid (OwnsL.below hH.out.2 A1.out)
   have L1:=Lib.hid (hH.out.1.trans (A1.out.mono hH.out.1.size))
   have M1:Hid (Below w1.heap.size w1 w1):=Below.refl _ _
   have HB1:Hid (wr.heap.size<w1.heap.size):=Cells.lt B1.out
   rcases Nat.eq_zero_or_pos m with hm0|hm0
   ·subst hm0
    have hJ:J= []:=List.eq_nil_of_length_eq_zero O1.out.2
    have HJ2:Hid (J'= []++ [x]):=by show _=_;rw[HJ.out,hJ];rfl
    subst hJ
    clear HJ HJN HJO
    have HS:=fun W (hW:Below w1.heap.size w1 W)=>LBox.cells (Cells.below B1.out hW)
    go_upto_region 6 with fail
    have L2:=Lib.hid (L1.out.drew)
    have M2:=Lib.hid (M1.out.drew)
    refine wp_region_held_drew (S:=fun W=>W.cell? ⟨wr.heap.size,0,none⟩=some (.int .i64 x.lba)∧W.cell? ⟨wr.heap.size,1,none⟩=some (.int .i64 x.n)∧W.cell? ⟨wr.heap.size,2,none⟩=some (.int .i64 x.ver)∧W.cell? ⟨wr.heap.size,3,none⟩=some (.int .i64 x.zone)∧W.cell? ⟨wr.heap.size,4,none⟩=some (.int .i64 x.off)) (by kernel_rfl) (HS _ M2.out) (fun hHeld=> ?_)
    generalize w1.drew=w2 at*
    clear L1 M1
    refine Reg.tk 0 rfl ?_
    refine Reg.tk 1 rfl ?_
    refine Reg.tk 2 rfl ?_
    refine Reg.tk 3 rfl ?_
    refine Reg.tk 4 rfl ?_
    refine Reg.tk 5 rfl ?_
    refine Reg.tk 6 rfl ?_
    refine Reg.tk 7 rfl ?_
    refine Reg.tk 8 rfl ?_
    refine Reg.tk 9 rfl ?_
    refine wpAnyH_done (by kernel_rfl) ?_ _
    clear hHeld
    clear n0 n1 n2 n3 n4
    have A3:Hid (Below w.heap.size w (w2.alloc (.cells #[.int .i64 x.lba,.int .i64 x.n,.int .i64 x.ver,.int .i64 x.zone,.int .i64 x.off] 60))):=L2.out.alloc L2.out.size _
    have B3:Hid (LBox (w2.alloc (.cells #[.int .i64 x.lba,.int .i64 x.n,.int .i64 x.ver,.int .i64 x.zone,.int .i64 x.off] 60)) w2.heap.size x):=Cells.new _ _ _
    have O3:=Lib.hid (OwnsL.alloc (OwnsL.below O1.out M2.out) (.cells #[.int .i64 x.lba,.int .i64 x.n,.int .i64 x.ver,.int .i64 x.zone,.int .i64 x.off] 60))
    have n0:=LBox.cells (Cells.below B1.out M2.out)
    obtain⟨n0,n1,n2,n3,n4⟩:=n0
    go_wp2_with (at_builtin
                 refine wpList_append_l rfl (.tmp 39) (.tmp 41) rfl rfl w.heap.size _ 0 _ rfl O3.out _ 1 1 [x] rfl (RowS.one B3.out) (by omega) A3.out.size ?_
                 intro A' c' w' h1 h2 h3
                 have L4:=Lib.hid (A3.out.trans (below_row O3.out h2 A3.out.size))
                 have O4:=Lib.hid h1
                 clear h1 h2 h3)
    go_roundw
    case rel=>exact⟨k+1,A',0+1,c',by go_num,rfl,by omega,by omega,L4.out,by rw[HJE.out,HJ2.out];exact O4.out⟩
    case measure=>simp[intOf];omega
   ·obtain⟨j,hj⟩:∃j,m=j+1:=⟨m-1,by omega⟩
    rcases snoc_cases J with rfl|⟨a,z,rfl⟩
    ·have:=O1.out.2;simp at this;omega
    have hal:a.length=j:=by have:=O1.out.2;simp at this;omega
    have hz:(a++ [z])[j]? =some z:=by rw[←hal];simp
    have hmz:MayX z:=HJO.out.may z (by simp)
    have HGO:=fun w=>Lib.hid (goOn_any z x hmz HMX.out w)
    obtain⟨g,hB,hge,hgl,⟨q0,q1,q2,q3,q4⟩,hfz,hput⟩:=OwnsL.put O1.out hz
    subst hB
    have HJ2:=Lib.hid (HJ.out.trans (pushE_snoc a z x))
    have HSET:Hid ((a++ [z]).set j (grow z x.n)=a++ [grow z x.n]):=by
     show _=_
     rw[←hal,List.set_append_right _ _ (Nat.le_refl _),Nat.sub_self];rfl
    have HPZ:=Lib.hid hz
    have HS:=fun W (hW:Below w1.heap.size w1 W)=>And.intro (LBox.cells (Cells.below B1.out hW)) (OwnsL.cells_at (OwnsL.below O1.out hW) HPZ.out)
    have hjw:(m:Int)-1=(j:Int):=by omega
    have hj0:(0:Int)≤(j:Int):=by omega
    have hjn:(j:Int)<(m:Int):=by omega
    have HGE:=Lib.hid hge
    have hwn:goB z x=true→IntKind.i64.wrap (z.n+x.n)=z.n+x.n:=fun h=>by
     have h1:=(grow_may h hmz HMX.out).2.2.1
     have h2:=hmz.2.1
     have h3:=HMX.out.2.1
     have h4:=hmz.1
     have h5:z.lba+(z.n+x.n)≤1099511627776:=h1
     exact wrap_small (by omega) (by omega)
    clear HJ hput hz hal hfz hj hm0 q0 q1 q2 q3 q4 hmz HJO
    have hwr:IntKind.i64.wrap (j:Int)=(j:Int):=by rw[IntKind.wrap_i64];omega
    rcases e1:goB z x
    ·rw[e1] at HGO HJ2
     go_upto_region 6 with fail
     have L2:=Lib.hid (L1.out.drew)
     have M2:=Lib.hid (M1.out.drew)
     refine wp_region_held_drew (S:=fun W=>(W.cell? ⟨wr.heap.size,0,none⟩=some (.int .i64 x.lba)∧W.cell? ⟨wr.heap.size,1,none⟩=some (.int .i64 x.n)∧W.cell? ⟨wr.heap.size,2,none⟩=some (.int .i64 x.ver)∧W.cell? ⟨wr.heap.size,3,none⟩=some (.int .i64 x.zone)∧W.cell? ⟨wr.heap.size,4,none⟩=some (.int .i64 x.off))∧(W.cell? ⟨g,j*5,none⟩=some (.int .i64 z.lba)∧W.cell? ⟨g,j*5+1,none⟩=some (.int .i64 z.n)∧W.cell? ⟨g,j*5+2,none⟩=some (.int .i64 z.ver)∧W.cell? ⟨g,j*5+3,none⟩=some (.int .i64 z.zone)∧W.cell? ⟨g,j*5+4,none⟩=some (.int .i64 z.off))) (by kernel_rfl) (HS _ M2.out) (fun hHeld=> ?_)
     generalize w1.drew=w2 at*
     clear L1 M1
     refine Reg.tk 0 rfl ?_
     refine Reg.tk 1 rfl ?_
     refine Reg.tk 2 rfl ?_
     refine Reg.tk 3 rfl ?_
     refine Reg.tk 4 rfl ?_
     refine Reg.tk 5 rfl ?_
     refine Reg.tk 6 rfl ?_
     refine Reg.tk 7 rfl ?_
     refine Reg.step 8 rfl (by kernel_rfl) (by rfl) (fun K hK=> ?_)
     go_simp
     refine(HGO w2).out.mono ?_
     rintro e' w3 ⟨rfl,hb⟩
     have L3:=Lib.hid (L2.out.trans (hb.mono L2.out.size))
     have M3:=Lib.hid (M2.out.trans (hb.mono M2.out.size))
     clear hb L2 M2
     refine hK.out _ _ (HS _ M3.out) (fun hHeld=> ?_)
     clear hK K
     (try simp only[Act.put,List.setIfInBounds_toArray,List.set_cons_zero,List.set_cons_succ])
     refine Reg.tk 9 rfl ?_
     refine wpAnyH_done (by kernel_rfl) ?_ _
     clear hHeld
     clear hwn HSET
     have A3:Hid (Below w.heap.size w (w3.alloc (.cells #[.int .i64 x.lba,.int .i64 x.n,.int .i64 x.ver,.int .i64 x.zone,.int .i64 x.off] 60))):=L3.out.alloc L3.out.size _
     have B3:Hid (LBox (w3.alloc (.cells #[.int .i64 x.lba,.int .i64 x.n,.int .i64 x.ver,.int .i64 x.zone,.int .i64 x.off] 60)) w3.heap.size x):=Cells.new _ _ _
     have O3:=Lib.hid (OwnsL.alloc (OwnsL.below O1.out M3.out) (.cells #[.int .i64 x.lba,.int .i64 x.n,.int .i64 x.ver,.int .i64 x.zone,.int .i64 x.off] 60))
     have n0:=LBox.cells (Cells.below B1.out M3.out)
     obtain⟨n0,n1,n2,n3,n4⟩:=n0
     go_wp2_with (at_builtin
                  refine wpList_append_l rfl (.tmp 39) (.tmp 41) rfl rfl w.heap.size _ m _ rfl O3.out _ 1 1 [x] rfl (RowS.one B3.out) (by omega) A3.out.size ?_
                  intro A' c' w' h1 h2 h3
                  have L4:=Lib.hid (A3.out.trans (below_row O3.out h2 A3.out.size))
                  have O4:=Lib.hid h1
                  clear h1 h2 h3)
     go_roundw
     case rel=>exact⟨k+1,A',m+1,c',by go_num,rfl,by omega,by omega,L4.out,by rw[HJE.out,HJ2.out,cond_false];exact O4.out⟩
     case measure=>simp[intOf];omega
    ·rw[e1] at HGO HJ2
     have hwz:=hwn e1
     go_upto_region 6 with fail
     have L2:=Lib.hid (L1.out.drew)
     have M2:=Lib.hid (M1.out.drew)
     refine wp_region_held_drew (S:=fun W=>(W.cell? ⟨wr.heap.size,0,none⟩=some (.int .i64 x.lba)∧W.cell? ⟨wr.heap.size,1,none⟩=some (.int .i64 x.n)∧W.cell? ⟨wr.heap.size,2,none⟩=some (.int .i64 x.ver)∧W.cell? ⟨wr.heap.size,3,none⟩=some (.int .i64 x.zone)∧W.cell? ⟨wr.heap.size,4,none⟩=some (.int .i64 x.off))∧(W.cell? ⟨g,j*5,none⟩=some (.int .i64 z.lba)∧W.cell? ⟨g,j*5+1,none⟩=some (.int .i64 z.n)∧W.cell? ⟨g,j*5+2,none⟩=some (.int .i64 z.ver)∧W.cell? ⟨g,j*5+3,none⟩=some (.int .i64 z.zone)∧W.cell? ⟨g,j*5+4,none⟩=some (.int .i64 z.off))) (by kernel_rfl) (HS _ M2.out) (fun hHeld=> ?_)
     generalize w1.drew=w2 at*
     clear L1 M1
     refine Reg.tk 0 rfl ?_
     refine Reg.tk 1 rfl ?_
     refine Reg.tk 2 rfl ?_
     refine Reg.tk 3 rfl ?_
     refine Reg.tk 4 rfl ?_
     refine Reg.tk 5 rfl ?_
     refine Reg.tk 6 rfl ?_
     refine Reg.tk 7 rfl ?_
     refine Reg.step 8 rfl (by kernel_rfl) (by rfl) (fun K hK=> ?_)
     go_simp
     refine(HGO w2).out.mono ?_
     rintro e' w3 ⟨rfl,hb⟩
     have L3:=Lib.hid (L2.out.trans (hb.mono L2.out.size))
     have M3:=Lib.hid (M2.out.trans (hb.mono M2.out.size))
     clear hb L2 M2
     refine hK.out _ _ (HS _ M3.out) (fun hHeld=> ?_)
     clear hK K
     (try simp only[Act.put,List.setIfInBounds_toArray,List.set_cons_zero,List.set_cons_succ])
     refine Reg.tk 9 rfl ?_
     refine wpAnyH_done (by kernel_rfl) ?_ _
     clear hHeld
     go_upto_region 7 with fail
     have L4:=Lib.hid (L3.out.drew)
     have M4:=Lib.hid (M3.out.drew)
     refine RegK.start (S:=fun W=>(W.cell? ⟨wr.heap.size,0,none⟩=some (.int .i64 x.lba)∧W.cell? ⟨wr.heap.size,1,none⟩=some (.int .i64 x.n)∧W.cell? ⟨wr.heap.size,2,none⟩=some (.int .i64 x.ver)∧W.cell? ⟨wr.heap.size,3,none⟩=some (.int .i64 x.zone)∧W.cell? ⟨wr.heap.size,4,none⟩=some (.int .i64 x.off))∧(W.cell? ⟨g,j*5,none⟩=some (.int .i64 z.lba)∧W.cell? ⟨g,j*5+1,none⟩=some (.int .i64 z.n)∧W.cell? ⟨g,j*5+2,none⟩=some (.int .i64 z.ver)∧W.cell? ⟨g,j*5+3,none⟩=some (.int .i64 z.zone)∧W.cell? ⟨g,j*5+4,none⟩=some (.int .i64 z.off))) 10 (by kernel_rfl) (HS _ M4.out) (fun hHeld=> ?_)
     generalize w3.drew=w4 at*
     clear L3 M3
     refine RegK.tk 0 [10,9,8] rfl ?_
     refine RegK.tk 1 [10,9,8] rfl ?_
     refine RegK.tk 2 [10,7,4,3] rfl ?_
     refine RegK.tk 3 [10,7,4] rfl ?_
     refine RegK.tk 4 [10,7] rfl ?_
     refine RegK.tk 5 [10,7,6] rfl ?_
     refine RegK.tk 6 [10,7] rfl ?_
     refine RegK.tk 7 [10] rfl ?_
     refine RegK.tk 8 [10,9] rfl ?_
     refine RegK.tk 9 [10] rfl ?_
     have O9:=Lib.hid (OwnsL.put_ (OwnsL.below O1.out M4.out) HPZ.out 1 (.int .i64 (z.n+x.n)) (grow z x.n) (by omega) rfl)
     have L9:=Lib.hid (belowk L4.out HGE.out (j*5+1) (.int .i64 (z.n+x.n)))
     have hf1:w4.frozen? ⟨g,j*5+1,none⟩=false:=OwnsL.frozen (OwnsL.below O1.out M4.out) (j*5+1)
     obtain⟨⟨n0,n1,n2,n3,n4⟩,m0,m1,m2,m3,m4⟩:=hHeld
     refine RegK.step 10 rfl (by kernel_rfl) (by rfl) (fun K hK=> ?_)
     go_simp
     refine hK.out _ _ (fun h=>absurd rfl h) ?_
     clear hK K
     (try simp only[Act.put,List.setIfInBounds_toArray,List.set_cons_zero,List.set_cons_succ])
     refine RegK.done (by kernel_rfl) ?_ _
     clear n0 n1 n2 n3 n4 m0 m1 m2 m3 m4 hf1
     go_wp2_with fail
     go_roundw
     case rel=>exact⟨k+1,some ⟨g,0,none⟩,m,d,by go_num,rfl,by omega,by omega,L9.out,by rw[HJE.out,HJ2.out,cond_true,←HSET.out];exact O9.out⟩
     case measure=>simp[intOf];omega
  ·have hkn:l.take k=l:=List.take_of_length_le (by have:=hlen.out;omega)
   have HK:=Lib.hid hkn
   clear hkn
   go_wp2_with fail
   go_ret
   have h:=hH.out
   rw[HK.out,joinF_eq] at h
   exact⟨⟨_,_,_,rfl,h.2⟩,h.1⟩
end Ext
end
end Go.Proofs.YtmkagjnkpjpjcaaGreat
