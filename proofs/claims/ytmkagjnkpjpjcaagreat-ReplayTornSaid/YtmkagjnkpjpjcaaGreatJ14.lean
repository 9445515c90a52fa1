/-
  SEVERAL TEXTS IN ONE FILE: PGMap, PVmReg, PVmApply, PRepRecs.
-/
import Derived.Test.YtmkagjnkpjpjcaaGreatJ09
import Derived.Maps.OwnOps
import Derived.Maps.RangeRun
import Derived.Maps.Keyed
import Derived.Test.YtmkagjnkpjpjcaaGreatJ13
import Derived.Test.YtmkagjnkpjpjcaaGreatJ05
import Derived.Test.YtmkagjnkpjpjcaaGreatJ07
import Derived.Shelf.Abstract
import Derived.Shelf.RegionOpen
import Derived.OwnWalkIn
import Derived.TacticsInMore
import Derived.LoopNIn
import Derived.LoopIn
namespace Go.Proofs.YtmkagjnkpjpjcaaGreat
set_option maxRecDepth 100000
set_option linter.unusedSimpArgs false
set_option linter.unusedVariables false
set_option maxHeartbeats 12800000
section
open Go.RowKit Go.MapKept Mem Box
namespace GM
section
variable {κ V:Type} [DecidableEq κ]
def getB:List (κ × V)→κ→Option V
 | [],_=>none
 |k::r,n=>if k.1=n then some k.2 else getB r n
def setB:List (κ × V)→κ→V→List (κ × V)
 | [],n,v=> [(n,v)]
 |k::r,n,v=>if k.1=n then(n,v)::r else k::setB r n v
def delB:List (κ × V)→κ→List (κ × V)
 | [],_=> []
 |k::r,n=>if k.1=n then r else k::delB r n
def KN:List (κ × V)→Prop
 | []=>True
 |k::r=>getB r k.1=none∧KN r
theorem get_set (ks:List (κ × V)) (n:κ) (v:V) (m:κ):getB (setB ks n v) m=if m=n then some v else getB ks m:=by
 induction ks with
 |nil=>
  simp only[setB,getB]
  by_cases h:m=n
  ·rw[if_pos h,if_pos h.symm]
  ·rw[if_neg h,if_neg (Ne.symm h)]
 |cons k r ih=>
  unfold setB
  by_cases h:k.1=n
  ·rw[if_pos h]
   simp only[getB]
   by_cases h2:m=n
   ·simp[h2]
   ·simp only[h,if_neg (Ne.symm h2),if_neg h2]
  ·rw[if_neg h]
   simp only[getB,ih]
   by_cases h2:k.1=m
   ·rw[if_pos h2,if_pos h2,if_neg (fun e=>h (h2.trans e))]
   ·rw[if_neg h2,if_neg h2]
theorem kn_set {ks:List (κ × V)} (h:KN ks) (n:κ) (v:V):KN (setB ks n v):=by
 induction ks with
 |nil=>exact⟨rfl,trivial⟩
 |cons k r ih=>
  unfold setB
  by_cases hk:k.1=n
  ·rw[if_pos hk]
   exact⟨by rw[←hk];exact h.1,h.2⟩
  ·rw[if_neg hk]
   exact⟨by rw[get_set,if_neg hk];exact h.1,ih h.2⟩
theorem mem_get {ks:List (κ × V)} (hk:KN ks) {x:κ × V} (h:x∈ks):getB ks x.1=some x.2:=by
 induction ks with
 |nil=>cases h
 |cons k r ih=>
  unfold getB
  rcases List.mem_cons.1 h with rfl|h
  ·rw[if_pos rfl]
  ·by_cases e:k.1=x.1
   ·have:=ih hk.2 h
    rw[←e,hk.1] at this
    cases this
   ·rw[if_neg e];exact ih hk.2 h
end
theorem kn_one {κ V:Type} [DecidableEq κ] {ks:List (κ × V)} (h:KN ks):∀ {i j:Nat} {a b:κ × V},ks[i]? =some a→ks[j]? =some b→a.1=b.1→i=j:=by
 induction ks with
 |nil=>intro i j a b ha;simp at ha
 |cons k r ih=>
  intro i j a b ha hb hab
  have hno:∀c∈r,c.1≠k.1:=fun c hc e=>by
   have:=mem_get h.2 hc
   rw[e,h.1] at this
   cases this
  rcases i with _|i
  ·rcases j with _|j
   ·rfl
   ·simp only[List.getElem?_cons_zero,Option.some.injEq,List.getElem?_cons_succ] at ha hb
    subst ha
    exact absurd hab.symm (hno b (List.mem_of_getElem? hb))
  ·rcases j with _|j
   ·simp only[List.getElem?_cons_zero,Option.some.injEq,List.getElem?_cons_succ] at ha hb
    subst hb
    exact absurd hab (hno a (List.mem_of_getElem? ha))
   ·simp only[List.getElem?_cons_succ] at ha hb
    rw[ih h.2 ha hb hab]
structure Ky (P:Program) (kt:TypeId) {κ:Type} (mk:κ→Value) (ok:κ→Prop):Prop where
 inj:∀ {a b:κ},mk a=mk b→a=b
 check:∀(w:World) (em:Bool) (x:κ),ok x→(Instr.checkKey em 10000 kt (mk x)).run P w= .ok () w
 stays:∀(w:World) (x:κ),ok x→(Instr.keyThatStays (mk x) (mk x)).run P w= .ok (mk x) w
 find:∀(w:World) (x:κ),ok x→∀es:List MapEntry,(∀e∈es,∃y,ok y∧e.key=mk y)→
  ((Instr.findKey kt (mk x) es).run P w= .ok none w∧∀e∈es,e.key≠mk x)∨∃j e,(Instr.findKey kt (mk x) es).run P w= .ok (some (j,e.val)) w∧es[j]? =some e∧e.key=mk x
theorem ky_int {P:Program} {kt:TypeId} {q:IntKind} (hk:P.underlying kt=some (.int q)):Ky P kt (Value.int q) (fun _=>True) where
 inj h:=by injection h
 check w em x _:=MapKept.run_checkKey hk (show IsKey (.int q) (.int q x) from rfl) em 9999
 stays w x _:=MapKept.run_keyThatStays (show IsKey (.int q) (.int q x) from rfl)
 find w x _ es hes:=by
  have hks:∀y∈es,IsKey (.int q) y.key:=fun y hy=>by
   obtain⟨z,-,e⟩:=hes y hy
   rw[e];rfl
  rcases findNow_spec (show IsKey (.int q) (.int q x) from rfl) es 0 hks with⟨h1,h2⟩|⟨j,e0,h1,h2,h3⟩
  ·exact Or.inl ⟨MapKept.run_findKey hk h1,h2⟩
  ·exact Or.inr ⟨j,e0,by simpa using MapKept.run_findKey hk h1,h2,h3⟩
section
variable {P:Program} {t kt et:TypeId} {κ V:Type} [DecidableEq κ] {mk:κ→Value} {ok:κ→Prop} {bt:V→Value}
def Ents (mk:κ→Value) (bt:V→Value) (es:List MapEntry) (ks:List (κ × V)):Prop:=es.map (fun x=>(x.key,x.val))=ks.map (fun k=>(mk k.1,bt k.2))
omit [DecidableEq κ] in
theorem Ents.at {es:List MapEntry} {ks:List (κ × V)} (h:Ents mk bt es ks) {i:Nat} {e:MapEntry} (he:es[i]? =some e):∃k,ks[i]? =some k∧e.key=mk k.1∧e.val=bt k.2:=by
 have:=congrArg (·[i]?) h
 simp only[List.getElem?_map,he,Option.map_some] at this
 obtain⟨k,hk,e1⟩:=Option.map_eq_some_iff.1 this.symm
 injection e1 with e1 e2
 exact⟨k,hk,e1.symm,e2.symm⟩
omit [DecidableEq κ] in
theorem Ents.length {es:List MapEntry} {ks:List (κ × V)} (h:Ents mk bt es ks):es.length=ks.length:=by
 have:=congrArg List.length h
 simpa using this
structure FMap (mk:κ→Value) (ok:κ→Prop) (bt:V→Value) (w:World) (r:Nat) (ks:List (κ × V)):Prop where
 blk:∃es clock,w.heap[r]? =some (.map es clock)∧Ents mk bt es.toList ks∧(∀x∈es.toList,x.born<clock)∧(es.toList.map (·.born)).Nodup
 ok:∀k∈ks,ok k.1
 kn:KN ks
variable {w w':World} {r:Nat} {ks:List (κ × V)}
theorem FMap.lt (h:FMap mk ok bt w r ks):r<w.heap.size:=by obtain⟨es,c,h1,-⟩:=h.blk;exact(Array.getElem?_eq_some_iff.1 h1).1
theorem FMap.keep (h:FMap mk ok bt w r ks) (hb:w'.heap[r]? =w.heap[r]?):FMap mk ok bt w' r ks:=by
 obtain⟨es,c,h1,h2⟩:=h.blk
 exact⟨⟨es,c,hb.trans h1,h2⟩,h.ok,h.kn⟩
theorem FMap.below (h:FMap mk ok bt w r ks) (hb:Below w.heap.size w w'):FMap mk ok bt w' r ks:=h.keep (hb.block r h.lt)
theorem FMap.mov {S:List Nat} (h:FMap mk ok bt w r ks) (hb:Mov S w w') (hn:r∉S):FMap mk ok bt w' r ks:=h.keep (hb.block r h.lt hn)
theorem FMap.made (mk:κ→Value) (ok:κ→Prop) (bt:V→Value) (w:World):FMap mk ok bt (w.alloc (.map #[] 0)) w.heap.size []:=⟨⟨#[],0,heap_alloc_new w _,rfl,by simp,by simp⟩,by simp,trivial⟩
theorem FMap.ne {g:Nat} {t:TypeId} {cs:Array Value} {fr:Nat × Nat} (h:FMap mk ok bt w r ks) (hc:w.heap[g]? =some (.cells cs t fr)):g≠r:=by
 rintro rfl
 obtain⟨es,c,h1,-⟩:=h.blk
 rw[h1] at hc
 cases hc
theorem find_ents (K:Ky P kt mk ok) {es:List MapEntry} {ks:List (κ × V)} (h:Ents mk bt es ks) (hk:∀k∈ks,ok k.1) (hkn:KN ks) (w:World) {n:κ} (hn:ok n):
  (∃j e v,(Instr.findKey kt (mk n) es).run P w= .ok (some (j,bt v)) w∧getB ks n=some v∧es[j]? =some e∧e.key=mk n∧(∀u,Ents mk bt (es.modify j (fun e=> {e with key:=mk n,val:=bt u})) (setB ks n u))∧Ents mk bt (es.eraseIdx j) (delB ks n))∨
  ((Instr.findKey kt (mk n) es).run P w= .ok none w∧getB ks n=none∧(∀u,setB ks n u=ks++ [(n,u)])∧delB ks n=ks):=by
 have plain:∀(es:List MapEntry) (ks:List (κ × V)),Ents mk bt es ks→(∀e∈es,e.key≠mk n)→getB ks n=none∧(∀u,setB ks n u=ks++ [(n,u)])∧delB ks n=ks:=by
  intro es
  induction es with
  |nil=>
   intro ks h _
   have:ks= []:=by simpa [Ents] using h
   subst this
   exact⟨rfl,fun _=>rfl,rfl⟩
  |cons e es ih=>
   intro ks h hne
   match ks,h with
   | [],h=>simp[Ents] at h
   |k::ks,h=>
    simp only[Ents,List.map_cons,List.cons.injEq,Prod.mk.injEq] at h
    obtain⟨⟨h1,h2⟩,h3⟩:=h
    obtain⟨g1,g2,g3⟩:=ih ks h3 (fun e he=>hne e (List.mem_cons_of_mem _ he))
    have hkn:¬k.1=n:=fun e1=>hne e List.mem_cons_self (by rw[h1,e1])
    refine⟨by rw[getB,if_neg hkn];exact g1,fun u=>by rw[setB,if_neg hkn,g2];rfl,by rw[delB,if_neg hkn,g3]⟩
 have found:∀(es:List MapEntry) (ks:List (κ × V)) (j:Nat) (e:MapEntry),Ents mk bt es ks→es[j]? =some e→e.key=mk n→(∀i e',i<j→es[i]? =some e'→e'.key≠mk n)→
   ∃v,e.val=bt v∧getB ks n=some v∧(∀u,Ents mk bt (es.modify j (fun e=> {e with key:=mk n,val:=bt u})) (setB ks n u))∧Ents mk bt (es.eraseIdx j) (delB ks n):=by
  intro es
  induction es with
  |nil=>intro ks j e _ h;simp at h
  |cons x es ih=>
   intro ks j e h hj he hbef
   match ks,h with
   | [],h=>simp[Ents] at h
   |k::ks,h=>
    simp only[Ents,List.map_cons,List.cons.injEq,Prod.mk.injEq] at h
    obtain⟨⟨h1,h2⟩,h3⟩:=h
    rcases j with _|j
    ·simp only[List.getElem?_cons_zero,Option.some.injEq] at hj
     subst hj
     have hkn:k.1=n:=K.inj (h1.symm.trans he)
     refine⟨k.2,h2,by rw[getB,if_pos hkn],fun u=> ?_,?_⟩
     ·simp only[setB,if_pos hkn,Ents,List.modify_zero_cons,List.map_cons]
      rw[show es.map (fun x=>(x.key,x.val))=_ from h3]
     ·simp only[delB,if_pos hkn,List.eraseIdx_cons_zero]
      exact h3
    ·have hkn:¬k.1=n:=fun e1=>hbef 0 x (by omega) rfl (by rw[h1,e1])
     obtain⟨v,g1,g2,g3,g4⟩:=ih ks j e h3 (by simpa using hj) he (fun i e' hi he'=>hbef (i+1) e' (by omega) (by simpa using he'))
     refine⟨v,g1,by rw[getB,if_neg hkn];exact g2,fun u=> ?_,?_⟩
     ·simp only[setB,if_neg hkn,Ents,List.modify_succ_cons,List.map_cons,h1,h2]
      rw[show(List.modify es j _).map (fun x=>(x.key,x.val))=_ from g3 u]
     ·simp only[delB,if_neg hkn,Ents,List.eraseIdx_cons_succ,List.map_cons,h1,h2]
      rw[show(List.eraseIdx es j).map (fun x=>(x.key,x.val))=_ from g4]
 have hes:∀e∈es,∃y,ok y∧e.key=mk y:=fun e he=>by
  obtain⟨i,hi⟩:=List.getElem?_of_mem he
  obtain⟨k,h1,h2,-⟩:=h.at hi
  exact⟨k.1,hk k (List.mem_of_getElem? h1),h2⟩
 rcases K.find w n hn es hes with⟨h1,h2⟩|⟨j,e,h1,h2,h3⟩
 ·obtain⟨g1,g2,g3⟩:=plain es ks h h2
  exact .inr ⟨h1,g1,g2,g3⟩
 ·obtain⟨k,hkj,hke,-⟩:=h.at h2
  obtain⟨v,g1,g2,g3,g4⟩:=found es ks j e h h2 h3 fun i e' hi he' e1=>by
   obtain⟨k',hki,hke',-⟩:=h.at he'
   have:=kn_one hkn hki hkj (K.inj (by rw[←hke',←hke,e1,h3]))
   omega
  exact .inl ⟨j,e,v,by rw[h1,g1],g2,h2,h3,g3,g4⟩
theorem mapButs {w:World} {r:Nat} {es:Array MapEntry} {clock:Nat} (hb:w.heap[r]? =some (.map es clock)) (o:Obj):Mov [r] w {w with heap:=w.heap.setIfInBounds r o}:=
 ⟨rfl,rfl,rfl,by simp,fun k _ hn=>(MapKept.heap_set hb (o':=o)).2 k (fun e=>hn (by rw[e];exact List.mem_singleton.2 rfl))⟩
variable (K:Ky P kt mk ok) (ht:P.underlying t=some (.map kt et))
include K ht
theorem run_put (h:FMap mk ok bt w r ks) {n:κ} (hn:ok n) (v:V):∃w',(Instr.mapUpdate t (.map (some r)) (mk n) (bt v)).run P w= .ok () w'∧FMap mk ok bt w' r (setB ks n v)∧Mov [r] w w'∧w'.heap.size=w.heap.size:=by
 obtain⟨es,clock,hb,he,hborn,hnd⟩:=h.blk
 have hok':∀k∈setB ks n v,ok k.1:=by
  have:∀(ks:List (κ × V)),(∀k∈ks,ok k.1)→∀k∈setB ks n v,ok k.1:=by
   intro ks
   induction ks with
   |nil=>
    intro _ k hk
    obtain rfl:=List.mem_singleton.1 hk
    exact hn
   |cons x r ih=>
    intro h0 k hk
    unfold setB at hk
    split at hk
    ·rcases List.mem_cons.1 hk with rfl|hk
     ·exact hn
     ·exact h0 k (List.mem_cons_of_mem _ hk)
    ·rcases List.mem_cons.1 hk with rfl|hk
     ·exact h0 _ List.mem_cons_self
     ·exact ih (fun k hk=>h0 k (List.mem_cons_of_mem _ hk)) k hk
  exact this ks h.ok
 rcases find_ents K he h.ok h.kn w hn with⟨j,e,v0,g1,g2,g3,g4,g5,-⟩|⟨g1,-,g3,-⟩
 ·have ge:es[j]? =some e:=by simpa using g3
  refine⟨{w with heap:=w.heap.setIfInBounds r (.map (es.modify j fun e=> {e with key:=mk n,val:=bt v}) clock)},?_,⟨⟨_,clock,(MapKept.heap_set hb (o':=_)).1,?_,?_,?_⟩,hok',kn_set h.kn n v⟩,mapButs hb _,by simp⟩
  ·simp[Instr.mapUpdate,run_underlying ht,MapKept.run_getObj_map (P:=P) hb,K.check w _ n hn,g1,MapKept.run_setObj_map (P:=P) _ hb,Result.andThen,ge,g4,K.stays w n hn]
  ·rw[Array.toList_modify];exact g5 v
  ·rw[Array.toList_modify]
   intro x hx
   have:x.born∈(es.toList.modify j fun e=> {e with key:=mk n,val:=bt v}).map (·.born):=List.mem_map.2 ⟨x,hx,rfl⟩
   rw[show(es.toList.modify j fun e=> {e with key:=mk n,val:=bt v}).map (·.born)=es.toList.map (·.born) from ?_] at this
   ·obtain⟨y,hy,e1⟩:=List.mem_map.1 this
    rw[←e1];exact hborn y hy
   ·apply List.ext_getElem?
    intro i
    simp only[List.getElem?_map,List.getElem?_modify]
    split<;>cases es.toList[i]? <;>rfl
  ·rw[Array.toList_modify]
   rw[show(es.toList.modify j fun e=> {e with key:=mk n,val:=bt v}).map (·.born)=es.toList.map (·.born) from ?_]
   ·exact hnd
   ·apply List.ext_getElem?
    intro i
    simp only[List.getElem?_map,List.getElem?_modify]
    split<;>cases es.toList[i]? <;>rfl
 ·refine⟨{w with heap:=w.heap.setIfInBounds r (.map (es.push ⟨mk n,bt v,clock⟩) (clock+1))},?_,⟨⟨_,clock+1,(MapKept.heap_set hb (o':=_)).1,?_,?_,?_⟩,hok',kn_set h.kn n v⟩,mapButs hb _,by simp⟩
  ·simp[Instr.mapUpdate,run_underlying ht,MapKept.run_getObj_map (P:=P) hb,K.check w _ n hn,g1,MapKept.run_setObj_map (P:=P) _ hb,Result.andThen]
  ·rw[g3]
   unfold Ents at he ⊢
   simp[he]
  ·intro x hx
   simp only[Array.toList_push,List.mem_append,List.mem_singleton] at hx
   rcases hx with hx|rfl
   ·have:=hborn x hx;omega
   ·exact Nat.lt_succ_self _
  ·simp only[Array.toList_push,List.map_append,List.map_cons,List.map_nil]
   refine List.nodup_append.2 ⟨hnd,by simp,fun a ha b hb=> ?_⟩
   obtain⟨y,hy,rfl⟩:=List.mem_map.1 ha
   obtain rfl:=List.mem_singleton.1 hb
   have:=hborn y hy
   omega
theorem run_get (h:FMap mk ok bt w r ks) {z:Value} (hz:(zeroValue et).run P w= .ok z w) {n:κ} (hn:ok n):(Instr.lookup t (.map (some r)) (mk n) false).run P w= .ok (((getB ks n).map bt).getD z) w:=by
 obtain⟨es,clock,hb,he,hborn,hnd⟩:=h.blk
 rcases find_ents K he h.ok h.kn w hn with⟨j,e,v0,g1,g2,-⟩|⟨g1,g2,-⟩
 ·rw[g2]
  simp[Instr.lookup,run_underlying ht,MapKept.run_getObj_map (P:=P) hb,K.check w _ n hn,g1,Result.andThen]
 ·rw[g2]
  simp[Instr.lookup,run_underlying ht,MapKept.run_getObj_map (P:=P) hb,K.check w _ n hn,g1,Result.andThen,hz]
theorem run_get_ok (h:FMap mk ok bt w r ks) {z:Value} (hz:(zeroValue et).run P w= .ok z w) {n:κ} (hn:ok n):(Instr.lookup t (.map (some r)) (mk n) true).run P w= .ok (.tuple #[((getB ks n).map bt).getD z,.bool (getB ks n).isSome]) w:=by
 obtain⟨es,clock,hb,he,hborn,hnd⟩:=h.blk
 rcases find_ents K he h.ok h.kn w hn with⟨j,e,v0,g1,g2,-⟩|⟨g1,g2,-⟩
 ·rw[g2]
  simp[Instr.lookup,run_underlying ht,MapKept.run_getObj_map (P:=P) hb,K.check w _ n hn,g1,Result.andThen]
 ·rw[g2]
  simp[Instr.lookup,run_underlying ht,MapKept.run_getObj_map (P:=P) hb,K.check w _ n hn,g1,Result.andThen,hz]
omit K
theorem run_len (h:FMap mk ok bt w r ks) (ty:TypeId):(Builtin.len_ #[t] ty #[.map (some r)]).run P w= .ok (.int .i64 (ks.length:Int)) w:=by
 obtain⟨es,clock,hb,he,-⟩:=h.blk
 have hl:es.size=ks.length:=by
  have:=he.length
  simpa using this
 simp[Builtin.len_,run_underlying ht,MapKept.run_getObj_map (P:=P) hb,goInt,Result.andThen,hl]
omit ht
structure Rng (mk:κ→Value) (ok:κ→Prop) (bt:V→Value) (w:World) (r q:Nat) (ks rest:List (κ × V)):Prop where
 it:∃es clock since seen c0,w.heap[r]? =some (.map es clock)∧Ents mk bt es.toList ks∧(∀x∈es.toList,x.born<clock)∧(es.toList.map (·.born)).Nodup∧
  w.heap[q]? =some (.mapIter (some r) since seen c0)∧(∀x∈es.toList,x.born<since)∧since≤c0∧since≤clock∧Ents mk bt (leftOf es seen).toList rest
 ok:∀k∈ks,ok k.1
 kn:KN ks
 sub:∀k∈rest,k∈ks
omit ht
end
end GM
end
section
open Go.RowKit Mem Ext GM
namespace Vm
structure Prm where
 g:Nat
 z:Int
 o:Int
 rz:Int
 ro:Int
 T:Array Value
abbrev IM (w:World) (b:Nat) (ks:List (Int × Value)):Prop:=FMap (Value.int .i64) (fun _=>True) id w b ks
def Clo (g:Nat) (z o:Int) (x:Value) (w:World):Prop:=∃q1 q2,x= .func (.func 92) #[] #[.pointer (some ⟨g,0,none⟩),.pointer (some ⟨q1,0,none⟩),.pointer (some ⟨q2,0,none⟩)]∧Box.Cells w q1 3 #[.int .i64 z]∧Box.Cells w q2 3 #[.int .i64 o]
def cl1 (g:Nat):Value:= .func (.func 91) #[] #[.pointer (some ⟨g,0,none⟩)]
def Val (p:Prm) (x:Value) (w:World):Nat→Prop
 |1=>x=cl1 p.g
 |2=>x= .int .i64 p.z
 |3=>x= .int .i64 p.o
 |4=>Clo p.g p.z p.o x w
 |6=>x=cl1 p.g
 |7=>x= .int .i64 p.z
 |8=>x= .int .i64 p.o
 |9=>Clo p.g p.z p.o x w
 |11=>x=cl1 p.g
 |12=>Clo p.g (-1) 0 x w
 |14=>x=cl1 p.g
 |15=>x= .pointer (some ⟨p.g,4,none⟩)
 |16=>x= .int .i64 p.rz
 |17=>x= .pointer (some ⟨p.g,5,none⟩)
 |18=>x= .int .i64 p.ro
 |19=>Clo p.g p.rz p.ro x w
 |_=>True
def slot (i:Nat):Nat:= [35,36,37,38,39,99,40,41,42,43,99,44,45,99,46,47,48,49,50,51,99,52,99,53,11].getD i 99
def ents:List (Nat × Int):= [(5,1),(10,5),(13,2),(20,3),(22,4)]
theorem slot_ne:∀i,i<25→∀j,j<25→i≠j→slot i≠99→slot i≠slot j:=by decide
theorem slot_lo:∀i,i<25→slot i=11∨35≤slot i:=by decide
theorem slot_hi:∀i,i<25→slot i≠99→slot i<70:=by decide
theorem Clo.below {g:Nat} {z o:Int} {x:Value} {w w':World} (h:Clo g z o x w) (hb:Below w.heap.size w w'):Clo g z o x w':=by
 obtain⟨q1,q2,e,h1,h2⟩:=h
 exact⟨q1,q2,e,h1.below hb,h2.below hb⟩
theorem Clo.mov {g b:Nat} {z o:Int} {x:Value} {w w':World} {ks:List (Int × Value)} (h:Clo g z o x w) (hm:IM w b ks) (hb:Box.Mov [b] w w'):Clo g z o x w':=by
 obtain⟨q1,q2,e,h1,h2⟩:=h
 exact⟨q1,q2,e,h1.mov hb (by simpa using hm.ne h1),h2.mov hb (by simpa using hm.ne h2)⟩
theorem Val.below {p:Prm} {x:Value} {w w':World} (hb:Below w.heap.size w w') {i:Nat} (h:Val p x w i):Val p x w' i:=by
 unfold Val at*
 split at h<;>first|exact h|exact Clo.below h hb
theorem Val.mov {p:Prm} {x:Value} {w w':World} {b:Nat} {ks:List (Int × Value)} (hm:IM w b ks) (hb:Box.Mov [b] w w') {i:Nat} (h:Val p x w i):Val p x w' i:=by
 unfold Val at*
 split at h<;>first|exact h|exact Clo.mov h hm hb
theorem li_ne (li:Array Bool) {i j:Nat} (h:j≠i):(li.setIfInBounds i true).getD j false=li.getD j false:=by
 rw[Array.getD_eq_getD_getElem?,Array.getD_eq_getD_getElem?,Array.getElem?_setIfInBounds,if_neg (fun e=>h e.symm)]
theorem li_eq (li:Array Bool) {i:Nat} (h:i<li.size):(li.setIfInBounds i true).getD i false=true:=by
 rw[Array.getD_eq_getD_getElem?,Array.getElem?_setIfInBounds,if_pos rfl,if_pos h];rfl
theorem li_no {li:Array Bool} {i:Nat} (h:li.getD i true=false):li.getD i false=false:=by
 rw[Array.getD_eq_getD_getElem?] at*
 rcases e:li[i]? with _|b
 ·rw[e] at h;cases h
 ·rw[e] at h;exact h
theorem getD_set (T:Array Value) (s j:Nat) (x:Value) (hs:s<T.size):(T.setIfInBounds s x).getD j undef=if j=s then x else T.getD j undef:=by
 rw[Array.getD_eq_getD_getElem?,Array.getD_eq_getD_getElem?,Array.getElem?_setIfInBounds]
 by_cases h:s=j
 ·subst h;simp[hs]
 ·rw[if_neg h,if_neg (fun e=>h e.symm)]
structure J (p:Prm) (w0:World) (li:Array Bool) (a:Act) (w:World):Prop where
 size:a.tmps.size=70
 defers:a.defers= []
 low:∀j,j<35→j≠11→a.tmps.getD j undef=p.T.getD j undef
 vals:∀i,i<25→li.getD i false=true→Val p (a.tmps.getD (slot i) undef) w i
 below:Below w0.heap.size w0 w
 mp:li.getD 0 false=true→∃b ks,a.tmps.getD 35 undef= .map (some b)∧w0.heap.size≤b∧IM w b ks∧∀x∈ents,getB ks x.2=(bif li.getD x.1 false then some (a.tmps.getD (slot (x.1-1)) undef) else none)
 mv:∀x∈ [(23,53),(24,11)],li.getD x.1 false=true→li.getD 0 false=true∧a.tmps.getD x.2 undef=a.tmps.getD 35 undef
 ins:∀x∈ents,li.getD x.1 false=true→li.getD 0 false=true∧li.getD (x.1-1) false=true
section
variable {p:Prm} {w0 w w':World} {li:Array Bool} {a:Act}
theorem ents_lt:∀x∈ents,1≤x.1∧x.1<23∧slot (x.1-1)≠99∧slot x.1=99∧slot (x.1-1)≠35∧slot (x.1-1)≠53∧slot (x.1-1)≠11:=by decide
theorem J.next (h:J p w0 li a w) {i:Nat} (hi:i<25) (hsz:li.size=25) (hun:li.getD i true=false) (hs:slot i≠99) {x:Value} (hv:Val p x w' i) (hk:Below w.heap.size w w')
  (hmap:i=0→∃b,x= .map (some b)∧w0.heap.size≤b∧IM w' b [])
  (hmv:i=23∨i=24→li.getD 0 false=true∧x=a.tmps.getD 35 undef):J p w0 (li.setIfInBounds i true) (a.put (some (slot i)) x) w':=by
 have hno:=li_no hun
 have hsl:slot i<a.tmps.size:=by rw[h.size];exact slot_hi i hi hs
 have eT:(a.put (some (slot i)) x).tmps=a.tmps.setIfInBounds (slot i) x:=rfl
 have other:∀j,j≠slot i→((a.put (some (slot i)) x).tmps).getD j undef=a.tmps.getD j undef:=fun j hj=>by rw[eT,getD_set _ _ _ _ hsl,if_neg hj]
 have same:((a.put (some (slot i)) x).tmps).getD (slot i) undef=x:=by rw[eT,getD_set _ _ _ _ hsl,if_pos rfl]
 refine⟨?_,h.defers,fun j h1 h2=> ?_,fun j hj hl=> ?_,h.below.trans (hk.mono h.below.size),fun h0=> ?_,fun y hy hl=> ?_,fun y hy hl=> ?_⟩
 ·rw[eT,Array.size_setIfInBounds];exact h.size
 ·rw[other j (by rcases slot_lo i hi with e|e<;>omega)];exact h.low j h1 h2
 ·by_cases hij:j=i
  ·subst hij;rw[same];exact hv
  ·rw[li_ne _ hij] at hl
   by_cases h99:slot j=99
   ·have hz:a.tmps.getD (slot j) undef=undef:=by rw[h99,Array.getD_eq_getD_getElem?,Array.getElem?_eq_none (by rw[h.size];omega)];rfl
    rw[other _ (by rw[h99];exact fun e=>hs e.symm)]
    exact(h.vals j hj hl).below hk
   ·rw[other _ (slot_ne j hj i hi hij h99)]
    exact(h.vals j hj hl).below hk
 ·by_cases hi0:i=0
  ·obtain⟨b,e,hb,hm⟩:=hmap hi0
   subst hi0
   refine⟨b,[],by have:slot 0=35:=rfl;rw[←this,same];exact e,hb,hm,fun y hy=> ?_⟩
   have hy0:=(ents_lt y hy).1
   rw[li_ne _ (by omega)]
   rcases hyl:li.getD y.1 false
   ·rfl
   ·have:=(h.ins y hy hyl).1
    rw[hno] at this;cases this
  ·rw[li_ne _ (fun e=>hi0 e.symm)] at h0
   obtain⟨b,ks,e,hb,hm,hg⟩:=h.mp h0
   have h35:(35:Nat)≠slot i:=fun e=>slot_ne i hi 0 (by omega) hi0 hs e.symm
   refine⟨b,ks,by rw[other 35 h35];exact e,hb,hm.below hk,fun y hy=> ?_⟩
   obtain⟨y1,y2,y3,y4,-⟩:=ents_lt y hy
   have hyi:y.1≠i:=fun e=>hs (by rw[←e];exact y4)
   rw[hg y hy,li_ne _ hyi]
   rcases hyl:li.getD y.1 false
   ·rfl
   ·have h5:=(h.ins y hy hyl).2
    have h6:y.1-1≠i:=fun e=>by rw[e,hno] at h5;cases h5
    rw[other _ (slot_ne _ (by omega) i hi h6 y3)]
 ·have hy2:(y.1=23∧y.2=53)∨(y.1=24∧y.2=11):=by simp at hy;rcases hy with rfl|rfl<;>simp
  have hys:y.2=slot y.1∧y.1<25∧y.1≠0:=by rcases hy2 with⟨e1,e2⟩|⟨e1,e2⟩<;>rw[e1,e2]<;>decide
  by_cases hyi:y.1=i
  ·obtain⟨m1,m2⟩:=hmv (by rcases hy2 with⟨e1,-⟩|⟨e1,-⟩<;>omega)
   have hi0:(0:Nat)≠i:=by omega
   have h35:(35:Nat)≠slot i:=fun e=>slot_ne i hi 0 (by omega) (fun e=>hi0 e.symm) hs e.symm
   rw[li_ne _ hi0,hys.1,hyi,same,other 35 h35]
   exact⟨m1,m2⟩
  ·rw[li_ne _ hyi] at hl
   obtain⟨m1,m2⟩:=h.mv y hy hl
   have hi0:(0:Nat)≠i:=fun e=>by rw[e,hno] at m1;cases m1
   have h35:(35:Nat)≠slot i:=fun e=>slot_ne i hi 0 (by omega) (fun e=>hi0 e.symm) hs e.symm
   have h9:slot y.1≠99:=by rcases hy2 with⟨e1,-⟩|⟨e1,-⟩<;>rw[e1]<;>decide
   rw[li_ne _ hi0,other 35 h35,other _ (by rw[hys.1];exact slot_ne _ hys.2.1 i hi hyi h9)]
   exact⟨m1,m2⟩
 ·obtain⟨y1,y2,y3,y4,-⟩:=ents_lt y hy
  have hyi:y.1≠i:=fun e=>hs (by rw[←e];exact y4)
  rw[li_ne _ hyi] at hl
  obtain⟨m1,m2⟩:=h.ins y hy hl
  have hi0:(0:Nat)≠i:=fun e=>by rw[e,hno] at m1;cases m1
  have hi1:y.1-1≠i:=fun e=>by rw[e,hno] at m2;cases m2
  rw[li_ne _ hi0,li_ne _ hi1]
  exact⟨m1,m2⟩
theorem J.entry (h:J p w0 li a w) {j:Nat} {k:Int} (hx:(j,k)∈ents) (hsz:li.size=25) (hun:li.getD j true=false) {b:Nat} {ks:List (Int × Value)} (e:a.tmps.getD 35 undef= .map (some b)) (hb:w0.heap.size≤b) (hm:IM w b ks) (hg:∀x∈ents,getB ks x.2=(bif li.getD x.1 false then some (a.tmps.getD (slot (x.1-1)) undef) else none))
  (h0:li.getD 0 false=true) (h1:li.getD (j-1) false=true) (hmov:Box.Mov [b] w w') (hm':IM w' b (setB ks k (a.tmps.getD (slot (j-1)) undef))):J p w0 (li.setIfInBounds j true) (a.put none undef) w':=by
 have hj:=ents_lt _ hx
 dsimp only at hj
 have hb0:=h.below.trans (hmov.below h.below.size (by simpa using hb))
 have key:∀y∈ents,y.1≠j→y.2≠k:=by
  have:∀x∈ents,∀y∈ents,y.1≠x.1→y.2≠x.2:=by decide
  exact fun y hy hn=>this _ hx y hy hn
 have key2:∀y∈ents,y.1=j→y.2=k:=by
  have:∀x∈ents,∀y∈ents,y.1=x.1→y.2=x.2:=by decide
  exact fun y hy hn=>this _ hx y hy hn
 refine⟨h.size,h.defers,h.low,fun i hi hl=> ?_,hb0,fun _=>⟨b,_,e,hb,hm',fun y hy=> ?_⟩,fun y hy hl=> ?_,fun y hy hl=> ?_⟩
 ·by_cases hij:i=j
  ·subst hij
   have:∀y∈ents,∀(q:Prm) (v:Value) (w:World),Val q v w y.1:=by
    intro y hy q v w
    simp[ents] at hy
    rcases hy with rfl|rfl|rfl|rfl|rfl<;>trivial
   exact this _ hx _ _ _
  ·rw[li_ne _ hij] at hl
   exact(h.vals i hi hl).mov hm hmov
 ·rw[get_set]
  by_cases hyj:y.1=j
  ·rw[if_pos (key2 y hy hyj),hyj,li_eq _ (by rw[hsz];omega)];rfl
  ·rw[if_neg (key y hy hyj),li_ne _ hyj];exact hg y hy
 ·have hyj:y.1≠j:=by simp at hy;rcases hy with rfl|rfl<;>(dsimp only;omega)
  rw[li_ne _ hyj] at hl
  rw[li_ne _ (by omega)]
  exact h.mv y hy hl
 ·have hy1:=ents_lt y hy
  have:∀x∈ents,∀y∈ents,y.1-1≠x.1:=by decide
  have hne:=this _ hx y hy
  rw[li_ne _ (by omega),li_ne _ hne]
  by_cases hyj:y.1=j
  ·rw[hyj];exact⟨h0,h1⟩
  ·rw[li_ne _ hyj] at hl;exact h.ins y hy hl
end
section
variable {Q:Exit→Act→World→Prop} {p:Prm} {w0 w:World} {li:Array Bool} {a:Act} {o:Oper} {i:Nat} {K':Act→World→Prop}
theorem ifU {ops:Array Oper} (hg:o.guard=none) {A B:Prop} (hA:A):if Region.wanted o (yielded ops a.tmps)=true then A else B:=by
 rw[if_pos]
 ·exact hA
 ·unfold Region.wanted;rw[hg]
theorem J.step (hJ:J p w0 li a w) (hi:i<25) (hsz:li.size=25) (hun:li.getD i true=false) (hs:slot i≠99) (h0:i≠0∧i≠23∧i≠24) (hds:o.dst=some (slot i)) {x:Value} (hrun:(execOp a.eval o).run Tryz.prog w= .ok (.value x) w) (hv:Val p x w i) (hK:∀a' w',J p w0 (li.setIfInBounds i true) a' w'→K' a' w'):Oper.wp Tryz.prog o a w K' Q:=by
 unfold Oper.wp
 rw[hrun,Oper.upon_value,hds]
 exact hK _ _ (hJ.next hi hsz hun hs hv (Below.refl _ _) (fun e=>absurd e h0.1) (fun e=>by omega))
theorem J.make (hJ:J p w0 li a w) (hsz:li.size=25) (hun:li.getD 0 true=false) (ho:o.op= .makeMap 168 none) (hds:o.dst=some 35) (hK:∀a' w',J p w0 (li.setIfInBounds 0 true) a' w'→K' a' w'):Oper.wp Tryz.prog o a w K' Q:=by
 have hr:(execOp a.eval o).run Tryz.prog w= .ok (.value (.map (some w.heap.size))) (w.alloc (.map #[] 0)):=by
  have hmm:= @run_makeMap Tryz.prog
  unfold execOp
  rw[ho]
  go_simp
 unfold Oper.wp
 rw[hr,Oper.upon_value,hds]
 exact hK _ _ (hJ.next (i:=0) (by omega) hsz hun (by decide) trivial ((Below.refl _ w).alloc (Nat.le_refl _) _) (fun _=>⟨_,rfl,hJ.below.size,FMap.made _ _ _ _⟩) (fun e=>by omega))
theorem J.move (hJ:J p w0 li a w) (hi:i=23∨i=24) (hsz:li.size=25) (hun:li.getD i true=false) (hds:o.dst=some (slot i)) {s:Nat} (ho:o.op= .move (.tmp s)∨o.op= .assign (.tmp s)) (h0:li.getD 0 false=true) (hx:a.tmps.getD s undef=a.tmps.getD 35 undef) (hK:∀a' w',J p w0 (li.setIfInBounds i true) a' w'→K' a' w'):Oper.wp Tryz.prog o a w K' Q:=by
 have hr:(execOp a.eval o).run Tryz.prog w= .ok (.value (a.tmps.getD s undef)) w:=by
  unfold execOp
  rcases ho with ho|ho<;>(rw[ho];rfl)
 unfold Oper.wp
 rw[hr,Oper.upon_value,hds]
 exact hK _ _ (hJ.next (by omega) hsz hun (by rcases hi with rfl|rfl<;>decide) (by rcases hi with rfl|rfl<;>trivial) (Below.refl _ _) (fun e=>by omega) (fun _=>⟨h0,hx⟩))
theorem J.call (hJ:J p w0 li a w) (hi:i<25) (hsz:li.size=25) (hun:li.getD i true=false) (hs:slot i≠99) (h0:i≠0∧i≠23∧i≠24) (hds:o.dst=some (slot i)) {z q:Int} (hrun:(execOp a.eval o).run Tryz.prog w= .ok (.enter 91 #[.int .i64 z,.int .i64 q,.pointer (some ⟨p.g,0,none⟩)]) w) (hv:∀x w',Clo p.g z q x w'→Val p x w' i) (hK:∀a' w',J p w0 (li.setIfInBounds i true) a' w'→K' a' w'):Oper.wp Tryz.prog o a w K' Q:=by
 unfold Oper.wp
 rw[hrun,Oper.upon_enter]
 refine(clos_any p.g z q w).mono ?_
 rintro e w' ⟨rfl,rfl⟩
 rw[hds]
 refine hK _ _ (hJ.next hi hsz hun hs (hv _ _ ⟨_,_,rfl,?_,?_⟩) (((Below.refl _ w).alloc (Nat.le_refl _) _).alloc (by simp) _) (fun e=>absurd e h0.1) (fun e=>by omega))
 ·exact(Box.Cells.new w _ _).alloc _
 ·have:=Box.Cells.new (w.alloc (.cells #[.int .i64 z] 3)) #[.int .i64 q] 3
  rwa [World.size_alloc] at this
theorem J.insert (hJ:J p w0 li a w) {j:Nat} {k:Int} (hx:(j,k)∈ents) (hsz:li.size=25) (hun:li.getD j true=false) (ho:o.op= .insert 168 (.tmp 35) (.const (.int .i64 k)) (.tmp (slot (j-1)))) (hds:o.dst=none) (h0:li.getD 0 false=true) (h1:li.getD (j-1) false=true) (hK:∀a' w',J p w0 (li.setIfInBounds j true) a' w'→K' a' w'):Oper.wp Tryz.prog o a w K' Q:=by
 obtain⟨b,ks,e,hb,hm,hg⟩:=hJ.mp h0
 obtain⟨w',hr,hm',hmov,-⟩:=run_put (t:=168) (et:=165) (ky_int Tryz.underlying3) Tryz.underlying168 hm (n:=k) trivial (a.tmps.getD (slot (j-1)) undef)
 have hrun:(execOp a.eval o).run Tryz.prog w= .ok .skip w':=by
  have e1:a.eval (.tmp 35)= .map (some b):=e
  have e2:a.eval (.const (.int .i64 k))= .int .i64 k:=rfl
  have e3:a.eval (.tmp (slot (j-1)))=a.tmps.getD (slot (j-1)) undef:=rfl
  unfold execOp
  rw[ho]
  simp only[e1,e2,e3]
  have hr':(Instr.mapUpdate 168 (.map (some b)) (.int .i64 k) (a.tmps.getD (slot (j-1)) undef)).run Tryz.prog w= .ok () w':=hr
  simp only[Sem.run_bind,hr',Result.andThen_ok,Sem.run_pure]
 unfold Oper.wp
 rw[hrun]
 show K' (a.put o.dst undef) w'
 rw[hds]
 exact hK _ _ (hJ.entry hx hsz hun e hb hm hg h0 h1 hmov hm')
end
section
variable {w:World} {ρ:Operand→Value} {o:Oper} {i j:Operand}
theorem op_move (h:o.op= .move i):(execOp ρ o).run Tryz.prog w= .ok (.value (ρ i)) w:=by unfold execOp;rw[h];rfl
theorem op_call {c:Call} {k:Operand} {x y p:Value} (hc:c.callee= .value k) (hcc:c.args= #[i,j]) (h:o.op= .call c) (hf:ρ k= .func (.func 91) #[] #[p]) (h1:ρ i=x) (h2:ρ j=y):(execOp ρ o).run Tryz.prog w= .ok (.enter 91 #[x,y,p]) w:=by
 unfold execOp;rw[h]
 subst h1 h2
 simp only[resolve,hc,hcc,hf]
 go_simp
theorem op_field {g k:Nat} (h:o.op= .fieldAddr 49 i k) (hi:ρ i= .pointer (some ⟨g,0,none⟩)) (hk:k=4∨k=5):(execOp ρ o).run Tryz.prog w= .ok (.value (.pointer (some ⟨g,k,none⟩))) w:=by
 unfold execOp;rw[h]
 simp only[hi]
 rcases hk with rfl|rfl<;>go_simp
theorem op_load {g k:Nat} {x:Int} (h:o.op= .load 3 i) (hi:ρ i= .pointer (some ⟨g,k,none⟩)) (hc:w.cell? ⟨g,k,none⟩=some (.int .i64 x)):(execOp ρ o).run Tryz.prog w= .ok (.value (.int .i64 x)) w:=by
 unfold execOp;rw[h]
 simp only[hi]
 go_simp
theorem op_func {fn:Fn} (h:o.op= .makeFunc fn #[] #[i]):(execOp ρ o).run Tryz.prog w= .ok (.value (.func fn #[] #[ρ i])) w:=by
 have hmf:∀(fn:Fn) (first cap:Array Value) (w:World),(Instr.makeFunc fn first cap).run Tryz.prog w= .ok (.func fn first cap) w:=fun _ _ _ _=>rfl
 unfold execOp;rw[h]
 go_simp
end
theorem inv_at {P:Program} {ops:Array Oper} {Q:Exit→Act→World→Prop} {id:Nat} {a:Act} {w:World} (hm:P.follows .mixedOrders=true) (J:Array Value→Array Bool→Act→World→Prop) (hord:(ops.toList.zipIdx.all fun x=>x.1.after.all fun e=>decide (e.on<x.2))=true)
  (h0:J a.tmps (Array.replicate ops.size false) a w.drew)
  (hstep:∀(listed:Array Bool) (a1:Act) (w:World) (i:Nat) (o:Oper),listed.size=ops.size→listed.getD i true=false→ops[i]? =some o→(∀e∈o.after,Region.binds .any e=true→listed.getD e.on false=true)→J a.tmps listed a1 w→
   ∀K':Act→World→Prop,(∀a' w',J a.tmps (listed.setIfInBounds i true) a' w'→K' a' w')→if Region.wanted o (yielded ops a1.tmps)=true then Oper.wp P o a1 w K' Q else K' (a1.put o.dst undef) w)
  (hend:∀(listed:Array Bool) (a1:Act) (w:World),listed.size=ops.size→(∀i,listed.getD i true=true)→J a.tmps listed a1 w→Q .normal a1 w):(Code.region id ops true).wp P Q a w:=Inv.wp_region_inv hm (J a.tmps) hord h0 hstep hend
theorem act70 (a:Act) (h:a.tmps.size=70) (hd:a.defers= []):a= {tmps:= #[a.tmps.getD 0 undef,a.tmps.getD 1 undef,a.tmps.getD 2 undef,a.tmps.getD 3 undef,a.tmps.getD 4 undef,a.tmps.getD 5 undef,a.tmps.getD 6 undef,a.tmps.getD 7 undef,a.tmps.getD 8 undef,a.tmps.getD 9 undef,a.tmps.getD 10 undef,a.tmps.getD 11 undef,a.tmps.getD 12 undef,a.tmps.getD 13 undef,a.tmps.getD 14 undef,a.tmps.getD 15 undef,a.tmps.getD 16 undef,a.tmps.getD 17 undef,a.tmps.getD 18 undef,a.tmps.getD 19 undef,a.tmps.getD 20 undef,a.tmps.getD 21 undef,a.tmps.getD 22 undef,a.tmps.getD 23 undef,a.tmps.getD 24 undef,a.tmps.getD 25 undef,a.tmps.getD 26 undef,a.tmps.getD 27 undef,a.tmps.getD 28 undef,a.tmps.getD 29 undef,a.tmps.getD 30 undef,a.tmps.getD 31 undef,a.tmps.getD 32 undef,a.tmps.getD 33 undef,a.tmps.getD 34 undef,a.tmps.getD 35 undef,a.tmps.getD 36 undef,a.tmps.getD 37 undef,a.tmps.getD 38 undef,a.tmps.getD 39 undef,a.tmps.getD 40 undef,a.tmps.getD 41 undef,a.tmps.getD 42 undef,a.tmps.getD 43 undef,a.tmps.getD 44 undef,a.tmps.getD 45 undef,a.tmps.getD 46 undef,a.tmps.getD 47 undef,a.tmps.getD 48 undef,a.tmps.getD 49 undef,a.tmps.getD 50 undef,a.tmps.getD 51 undef,a.tmps.getD 52 undef,a.tmps.getD 53 undef,a.tmps.getD 54 undef,a.tmps.getD 55 undef,a.tmps.getD 56 undef,a.tmps.getD 57 undef,a.tmps.getD 58 undef,a.tmps.getD 59 undef,a.tmps.getD 60 undef,a.tmps.getD 61 undef,a.tmps.getD 62 undef,a.tmps.getD 63 undef,a.tmps.getD 64 undef,a.tmps.getD 65 undef,a.tmps.getD 66 undef,a.tmps.getD 67 undef,a.tmps.getD 68 undef,a.tmps.getD 69 undef],defers:= []}:=by
 have e:a.tmps=(Array.range 70).map (fun i=>a.tmps.getD i undef):=by
  apply Array.ext
  ·simp[h]
  ·intro i h1 h2
   simp[Array.getD,h1]
 have e2:(Array.range 70).map (fun i=>a.tmps.getD i undef)= #[a.tmps.getD 0 undef,a.tmps.getD 1 undef,a.tmps.getD 2 undef,a.tmps.getD 3 undef,a.tmps.getD 4 undef,a.tmps.getD 5 undef,a.tmps.getD 6 undef,a.tmps.getD 7 undef,a.tmps.getD 8 undef,a.tmps.getD 9 undef,a.tmps.getD 10 undef,a.tmps.getD 11 undef,a.tmps.getD 12 undef,a.tmps.getD 13 undef,a.tmps.getD 14 undef,a.tmps.getD 15 undef,a.tmps.getD 16 undef,a.tmps.getD 17 undef,a.tmps.getD 18 undef,a.tmps.getD 19 undef,a.tmps.getD 20 undef,a.tmps.getD 21 undef,a.tmps.getD 22 undef,a.tmps.getD 23 undef,a.tmps.getD 24 undef,a.tmps.getD 25 undef,a.tmps.getD 26 undef,a.tmps.getD 27 undef,a.tmps.getD 28 undef,a.tmps.getD 29 undef,a.tmps.getD 30 undef,a.tmps.getD 31 undef,a.tmps.getD 32 undef,a.tmps.getD 33 undef,a.tmps.getD 34 undef,a.tmps.getD 35 undef,a.tmps.getD 36 undef,a.tmps.getD 37 undef,a.tmps.getD 38 undef,a.tmps.getD 39 undef,a.tmps.getD 40 undef,a.tmps.getD 41 undef,a.tmps.getD 42 undef,a.tmps.getD 43 undef,a.tmps.getD 44 undef,a.tmps.getD 45 undef,a.tmps.getD 46 undef,a.tmps.getD 47 undef,a.tmps.getD 48 undef,a.tmps.getD 49 undef,a.tmps.getD 50 undef,a.tmps.getD 51 undef,a.tmps.getD 52 undef,a.tmps.getD 53 undef,a.tmps.getD 54 undef,a.tmps.getD 55 undef,a.tmps.getD 56 undef,a.tmps.getD 57 undef,a.tmps.getD 58 undef,a.tmps.getD 59 undef,a.tmps.getD 60 undef,a.tmps.getD 61 undef,a.tmps.getD 62 undef,a.tmps.getD 63 undef,a.tmps.getD 64 undef,a.tmps.getD 65 undef,a.tmps.getD 66 undef,a.tmps.getD 67 undef,a.tmps.getD 68 undef,a.tmps.getD 69 undef]:=by kernel_rfl
 rcases a with⟨T,d⟩
 dsimp only at hd e e2 ⊢
 subst hd
 congr 1
 exact e.trans e2
end Vm
end
section
open Go.RowKit Mem Ext GM
namespace Vm
open Seg (Hdr Rc Rv fits nums check)
open Pk (RBox rvV sevenC seven_cells)
def exR (r:Rc) (z o:Int):Ex:=bif r.kind==2 then⟨r.lba,r.n,r.ver,-1,0⟩ else⟨r.lba,r.n,r.ver,z,o⟩
theorem put_one {x:Ex} (h:MayX x):putE [] [x]= [x]:=by
 have h1:Ok 0 [x]:=⟨h,h.1,trivial⟩
 unfold putE
 rw[stackP_one (by simp)]
 have:overE [] [x]= [x]:=over_past (l:= []) (by intro y hy;cases hy) h1
 rw[this];rfl
theorem offd_one {x:Ex} {m:List Ex} (h:MayX x) (ho:Offd [x] m):m= [x]:=by
 obtain⟨r,hp,-,rfl⟩:=ho
 have:r= [(x,0)]:=by
  have h2:r.Perm [(x,0)]:=hp
  exact List.perm_singleton.1 h2
 rw[this]
 exact put_one h
theorem apply_any {y:Rv} {z o:Int} {w:World} (hf:fits (nums y.r)) (hc:check y.r=0) (hk:y.r.kind=1∨y.r.kind=2) (hz:0≤z) (ho:0≤o) (ho2:o≤1099511627776) (hm:MayX (exR y.r z o)) (hD:y.r.data.length≤140737488351232):
  Calls Tryz.prog 59 #[.slice none 0 0,rvV y,.int .i64 z,.int .i64 o] w (GaveE w [exR y.r z o] 0):=by
 have HX:=fun w=>Lib.hid (check_ok (RowS.nil cellsL 5 w) (show Ok 0 [] from trivial))
 have HC:=fun w=>Lib.hid (Seg.check_any y.r hf y.D y.r.data.length y.c rfl hD w)
 rw[hc] at HC
 have HM:=Lib.hid hm
 have HK:=Lib.hid hk
 have e1:decide (z<0)=false:=decide_eq_false (by omega)
 have e2:decide (o<0)=false:=decide_eq_false (by omega)
 have e3:decide (1099511627776<o)=false:=decide_eq_false (by omega)
 have n1:¬z<0:=by omega
 have n2:¬o<0:=by omega
 have hmf:∀(fn:Fn) (first cap:Array Value) (w:World),(Instr.makeFunc fn first cap).run Tryz.prog w= .ok (.func fn first cap) w:=fun _ _ _ _=>rfl
 have L1:=Lib.hid ((Below.refl w.heap.size w).alloc (Nat.le_refl _) (.cells #[.int .i64 y.r.kind,.int .i64 y.r.lba,.int .i64 y.r.n,.int .i64 y.r.ver,.int .i64 y.r.zone,.int .i64 y.r.off,.slice y.D y.r.data.length y.c] 49))
 have B1:Hid (RBox (w.alloc (.cells #[.int .i64 y.r.kind,.int .i64 y.r.lba,.int .i64 y.r.n,.int .i64 y.r.ver,.int .i64 y.r.zone,.int .i64 y.r.off,.slice y.D y.r.data.length y.c] 49)) w.heap.size y):=Box.Cells.new _ _ _
 unfold rvV
 clear hf hc hk hz ho hm hD
 go_enter Tryz.func59,Tryz.ntmps59
 go_upto_region 1 with fail
 generalize w.alloc (.cells #[.int .i64 y.r.kind,.int .i64 y.r.lba,.int .i64 y.r.n,.int .i64 y.r.ver,.int .i64 y.r.zone,.int .i64 y.r.off,.slice y.D y.r.data.length y.c] 49)=w1 at*
 obtain⟨k0,k1,k2,k3,k4,k5,k6⟩:=seven_cells B1.out
 go_upto_region 4 with(first
  |(go_at_call 36;refine(HX _).out.mono ?_;rintro e w2 ⟨rfl,hb⟩;have L2:=Lib.hid (L1.out.trans (hb.mono L1.out.size));have B2:Hid (RBox _ _ y):=Box.Cells.below B1.out hb;clear hb;obtain⟨p0,p1,p2,p3,p4,p5,p6⟩:=seven_cells B2.out)
  |(go_at_call 48;unfold Seg.recV at HC;refine(HC _).out.mono ?_;rintro e w3 ⟨rfl,hb⟩;have L3:=Lib.hid (L2.out.trans (hb.mono L2.out.size));have B3:Hid (RBox _ _ y):=Box.Cells.below B2.out hb;clear hb))
 have HB4:=fun W (h:Below w3.heap.size w3 W)=>(show W.cell? ⟨w.heap.size,4,none⟩=some (.int .i64 y.r.zone) from(seven_cells (B3.out.below h)).2.2.2.2.1)
 have HB5:=fun W (h:Below w3.heap.size w3 W)=>(show W.cell? ⟨w.heap.size,5,none⟩=some (.int .i64 y.r.off) from(seven_cells (B3.out.below h)).2.2.2.2.2.1)
 refine inv_at (by kernel_rfl) (fun T=>J ⟨w.heap.size,z,o,y.r.zone,y.r.off,T⟩ w3) (by kernel_rfl) ?h0 ?hstep ?hend
 case h0=>
  refine⟨rfl,rfl,fun j _ _=>rfl,fun i _ h=> ?_,(Below.refl _ w3).drew,fun h=> ?_,fun x hx h=> ?_,fun x hx h=> ?_⟩
  ·simp[Array.getD] at h
  ·simp[Array.getD] at h
  ·simp[Array.getD] at h
  ·simp[Array.getD] at h
 case hstep=>
  intro listed a w2 i o' hsz hun ho hdep hJ K' hK
  have hi:i<25:=(Array.getElem?_eq_some_iff.1 ho).1
  have hsz:listed.size=25:=hsz
  rcases i with _|_|_|_|_|_|_|_|_|_|_|_|_|_|_|_|_|_|_|_|_|_|_|_|_|i
  all_goals first|(exfalso;omega)|(simp only[List.getElem?_toArray,List.getElem?_cons_zero,List.getElem?_cons_succ,Option.some.injEq] at ho;subst ho;clear hi)
  ·exact ifU rfl (J.make hJ hsz hun rfl rfl hK)
  ·exact ifU rfl (J.step (i:=1) hJ (by decide) hsz hun (by decide) (by decide) rfl (op_move (i:= .tmp 10) rfl) (hJ.low 10 (by decide) (by decide)) hK)
  ·exact ifU rfl (J.step (i:=2) hJ (by decide) hsz hun (by decide) (by decide) rfl (op_move (i:= .tmp 2) rfl) (hJ.low 2 (by decide) (by decide)) hK)
  ·exact ifU rfl (J.step (i:=3) hJ (by decide) hsz hun (by decide) (by decide) rfl (op_move (i:= .tmp 3) rfl) (hJ.low 3 (by decide) (by decide)) hK)
  ·exact ifU rfl (J.call (i:=4) hJ (by decide) hsz hun (by decide) (by decide) rfl (op_call (k:= .tmp 36) (i:= .tmp 37) (j:= .tmp 38) rfl rfl rfl (hJ.vals 1 (by decide) (hdep ⟨1,.data⟩ (by simp) (by rfl))) (hJ.vals 2 (by decide) (hdep ⟨2,.data⟩ (by simp) (by rfl))) (hJ.vals 3 (by decide) (hdep ⟨3,.data⟩ (by simp) (by rfl)))) (fun _ _ h=>h) hK)
  ·exact ifU rfl (J.insert (j:=5) (k:=1) hJ (by decide) hsz hun rfl rfl (hdep ⟨0,.data⟩ (by simp) (by rfl)) (hdep ⟨4,.data⟩ (by simp) (by rfl)) hK)
  ·exact ifU rfl (J.step (i:=6) hJ (by decide) hsz hun (by decide) (by decide) rfl (op_move (i:= .tmp 10) rfl) (hJ.low 10 (by decide) (by decide)) hK)
  ·exact ifU rfl (J.step (i:=7) hJ (by decide) hsz hun (by decide) (by decide) rfl (op_move (i:= .tmp 2) rfl) (hJ.low 2 (by decide) (by decide)) hK)
  ·exact ifU rfl (J.step (i:=8) hJ (by decide) hsz hun (by decide) (by decide) rfl (op_move (i:= .tmp 3) rfl) (hJ.low 3 (by decide) (by decide)) hK)
  ·exact ifU rfl (J.call (i:=9) hJ (by decide) hsz hun (by decide) (by decide) rfl (op_call (k:= .tmp 40) (i:= .tmp 41) (j:= .tmp 42) rfl rfl rfl (hJ.vals 6 (by decide) (hdep ⟨6,.data⟩ (by simp) (by rfl))) (hJ.vals 7 (by decide) (hdep ⟨7,.data⟩ (by simp) (by rfl))) (hJ.vals 8 (by decide) (hdep ⟨8,.data⟩ (by simp) (by rfl)))) (fun _ _ h=>h) hK)
  ·exact ifU rfl (J.insert (j:=10) (k:=5) hJ (by decide) hsz hun rfl rfl (hdep ⟨0,.data⟩ (by simp) (by rfl)) (hdep ⟨9,.data⟩ (by simp) (by rfl)) hK)
  ·exact ifU rfl (J.step (i:=11) hJ (by decide) hsz hun (by decide) (by decide) rfl (op_move (i:= .tmp 10) rfl) (hJ.low 10 (by decide) (by decide)) hK)
  ·exact ifU rfl (J.call (i:=12) hJ (by decide) hsz hun (by decide) (by decide) rfl (op_call (k:= .tmp 44) (i:= .const (.int .i64 (-1))) (j:= .const (.int .i64 0)) rfl rfl rfl (hJ.vals 11 (by decide) (hdep ⟨11,.data⟩ (by simp) (by rfl))) rfl rfl) (fun _ _ h=>h) hK)
  ·exact ifU rfl (J.insert (j:=13) (k:=2) hJ (by decide) hsz hun rfl rfl (hdep ⟨0,.data⟩ (by simp) (by rfl)) (hdep ⟨12,.data⟩ (by simp) (by rfl)) hK)
  ·exact ifU rfl (J.step (i:=14) hJ (by decide) hsz hun (by decide) (by decide) rfl (op_move (i:= .tmp 10) rfl) (hJ.low 10 (by decide) (by decide)) hK)
  ·exact ifU rfl (J.step (i:=15) hJ (by decide) hsz hun (by decide) (by decide) rfl (op_field (i:= .tmp 5) rfl (hJ.low 5 (by decide) (by decide)) (by decide)) rfl hK)
  ·exact ifU rfl (J.step (i:=16) hJ (by decide) hsz hun (by decide) (by decide) rfl (op_load (i:= .tmp 47) rfl (hJ.vals 15 (by decide) (hdep ⟨15,.data⟩ (by simp) (by rfl))) (HB4 _ hJ.below)) rfl hK)
  ·exact ifU rfl (J.step (i:=17) hJ (by decide) hsz hun (by decide) (by decide) rfl (op_field (i:= .tmp 5) rfl (hJ.low 5 (by decide) (by decide)) (by decide)) rfl hK)
  ·exact ifU rfl (J.step (i:=18) hJ (by decide) hsz hun (by decide) (by decide) rfl (op_load (i:= .tmp 49) rfl (hJ.vals 17 (by decide) (hdep ⟨17,.data⟩ (by simp) (by rfl))) (HB5 _ hJ.below)) rfl hK)
  ·exact ifU rfl (J.call (i:=19) hJ (by decide) hsz hun (by decide) (by decide) rfl (op_call (k:= .tmp 46) (i:= .tmp 48) (j:= .tmp 50) rfl rfl rfl (hJ.vals 14 (by decide) (hdep ⟨14,.data⟩ (by simp) (by rfl))) (hJ.vals 16 (by decide) (hdep ⟨16,.data⟩ (by simp) (by rfl))) (hJ.vals 18 (by decide) (hdep ⟨18,.data⟩ (by simp) (by rfl)))) (fun _ _ h=>h) hK)
  ·exact ifU rfl (J.insert (j:=20) (k:=3) hJ (by decide) hsz hun rfl rfl (hdep ⟨0,.data⟩ (by simp) (by rfl)) (hdep ⟨19,.data⟩ (by simp) (by rfl)) hK)
  ·exact ifU rfl (J.step (i:=21) hJ (by decide) hsz hun (by decide) (by decide) rfl (op_func (i:= .tmp 5) rfl) trivial hK)
  ·exact ifU rfl (J.insert (j:=22) (k:=4) hJ (by decide) hsz hun rfl rfl (hdep ⟨0,.data⟩ (by simp) (by rfl)) (hdep ⟨21,.data⟩ (by simp) (by rfl)) hK)
  ·exact ifU rfl (J.move (i:=23) (s:=35) hJ (.inl rfl) hsz hun rfl (.inl rfl) (hdep ⟨0,.data⟩ (by simp) (by rfl)) rfl hK)
  ·exact ifU rfl (J.move (i:=24) (s:=53) hJ (.inr rfl) hsz hun rfl (.inr rfl) (hdep ⟨0,.phase⟩ (by simp) (by rfl)) (hJ.mv (23,53) (by simp) (hdep ⟨23,.data⟩ (by simp) (by rfl))).2 hK)
 case hend=>
  intro listed a w4 hsz hall hJ
  have hall':∀i,i<25→listed.getD i false=true:=fun i hi=>by
   have:=hall i
   rw[Array.getD_eq_getD_getElem?] at*
   have hs:i<listed.size:=by rw[hsz];exact hi
   rw[Array.getElem?_eq_getElem hs] at*
   exact this
  obtain⟨b,ks,e35,hb,hm,hg⟩:=hJ.mp (hall' 0 (by omega))
  have l11:a.tmps.getD 11 undef= .map (some b):=((hJ.mv (24,11) (by simp) (hall' 24 (by omega))).2).trans e35
  have l0:a.tmps.getD 0 undef= .slice none 0 0:=hJ.low 0 (by decide) (by decide)
  have l5:a.tmps.getD 5 undef= .pointer (some ⟨w.heap.size,0,none⟩):=hJ.low 5 (by decide) (by decide)
  obtain⟨p1,p2,x4,c41,c42⟩:Clo w.heap.size z o _ w4:=hJ.vals 4 (by omega) (hall' 4 (by omega))
  obtain⟨p3,p4,x12,c121,c122⟩:Clo w.heap.size (-1) 0 _ w4:=hJ.vals 12 (by omega) (hall' 12 (by omega))
  have g1:=hg (5,1) (by simp[ents])
  have g2:=hg (13,2) (by simp[ents])
  rw[hall' 5 (by omega)] at g1
  rw[hall' 13 (by omega)] at g2
  have HSEL:Hid (∃(q1 q2:Nat) (z' o':Int),getB ks y.r.kind=some (.func (.func 92) #[] #[.pointer (some ⟨w.heap.size,0,none⟩),.pointer (some ⟨q1,0,none⟩),.pointer (some ⟨q2,0,none⟩)])∧w4.cell? ⟨q1,0,none⟩=some (.int .i64 z')∧w4.cell? ⟨q2,0,none⟩=some (.int .i64 o')∧exR y.r z o=⟨y.r.lba,y.r.n,y.r.ver,z',o'⟩):=by
   rcases HK.out with e|e
   ·refine⟨p1,p2,z,o,?_,c41.cell 0,c42.cell 0,by unfold exR;rw[e];rfl⟩
    rw[e];exact g1.trans (congrArg some x4)
   ·refine⟨p3,p4,-1,0,?_,c121.cell 0,c122.cell 0,by unfold exR;rw[e];rfl⟩
    rw[e];exact g2.trans (congrArg some x12)
  have L4:=Lib.hid (L3.out.trans (hJ.below.mono L3.out.size))
  have B4:Hid (RBox w4 w.heap.size y):=B3.out.below hJ.below
  rw[act70 a hJ.size hJ.defers,l0,l5,l11]
  generalize a.tmps.getD 1 undef=v1,a.tmps.getD 2 undef=v2,a.tmps.getD 3 undef=v3,a.tmps.getD 4 undef=v4,a.tmps.getD 6 undef=v6,a.tmps.getD 7 undef=v7,a.tmps.getD 8 undef=v8,a.tmps.getD 9 undef=v9,a.tmps.getD 10 undef=v10,a.tmps.getD 12 undef=v12,a.tmps.getD 13 undef=v13,a.tmps.getD 14 undef=v14,a.tmps.getD 15 undef=v15,a.tmps.getD 16 undef=v16,a.tmps.getD 17 undef=v17,a.tmps.getD 18 undef=v18,a.tmps.getD 19 undef=v19,a.tmps.getD 20 undef=v20,a.tmps.getD 21 undef=v21,a.tmps.getD 22 undef=v22,a.tmps.getD 23 undef=v23,a.tmps.getD 24 undef=v24,a.tmps.getD 25 undef=v25,a.tmps.getD 26 undef=v26,a.tmps.getD 27 undef=v27,a.tmps.getD 28 undef=v28,a.tmps.getD 29 undef=v29,a.tmps.getD 30 undef=v30,a.tmps.getD 31 undef=v31,a.tmps.getD 32 undef=v32,a.tmps.getD 33 undef=v33,a.tmps.getD 34 undef=v34,a.tmps.getD 35 undef=v35,a.tmps.getD 36 undef=v36,a.tmps.getD 37 undef=v37,a.tmps.getD 38 undef=v38,a.tmps.getD 39 undef=v39,a.tmps.getD 40 undef=v40,a.tmps.getD 41 undef=v41,a.tmps.getD 42 undef=v42,a.tmps.getD 43 undef=v43,a.tmps.getD 44 undef=v44,a.tmps.getD 45 undef=v45,a.tmps.getD 46 undef=v46,a.tmps.getD 47 undef=v47,a.tmps.getD 48 undef=v48,a.tmps.getD 49 undef=v49,a.tmps.getD 50 undef=v50,a.tmps.getD 51 undef=v51,a.tmps.getD 52 undef=v52,a.tmps.getD 53 undef=v53,a.tmps.getD 54 undef=v54,a.tmps.getD 55 undef=v55,a.tmps.getD 56 undef=v56,a.tmps.getD 57 undef=v57,a.tmps.getD 58 undef=v58,a.tmps.getD 59 undef=v59,a.tmps.getD 60 undef=v60,a.tmps.getD 61 undef=v61,a.tmps.getD 62 undef=v62,a.tmps.getD 63 undef=v63,a.tmps.getD 64 undef=v64,a.tmps.getD 65 undef=v65,a.tmps.getD 66 undef=v66,a.tmps.getD 67 undef=v67,a.tmps.getD 68 undef=v68,a.tmps.getD 69 undef=v69
  clear hJ hall hall' hsz e35 l0 l5 l11 x4 x12 c41 c42 c121 c122 g1 g2 hg hb
  obtain⟨q1,q2,z',o',hget,hc1,hc2,hex⟩:=HSEL.out
  have hlk:(Instr.lookup 168 (.map (some b)) (.int .i64 y.r.kind) false).run Tryz.prog w4= .ok (.func (.func 92) #[] #[.pointer (some ⟨w.heap.size,0,none⟩),.pointer (some ⟨q1,0,none⟩),.pointer (some ⟨q2,0,none⟩)]) w4:=by
   have h:=run_get (t:=168) (et:=165) (ky_int Tryz.underlying3) Tryz.underlying168 hm (Tryz.zeroValue165 w4) (n:=y.r.kind) trivial
   rw[hget] at h
   exact h
  have HT:=Lib.hid (told_any (z:=z') (o:=o') B4.out hc1 hc2)
  have HE:=Lib.hid hex
  clear hm hget HSEL hc1 hc2 hex HX HC
  obtain⟨k0,k1,k2,k3,k4,k5,k6⟩:=seven_cells B4.out
  have hone:=Lib.hid (fun(m:List Ex)=>offd_one (m:=m) (x:=⟨y.r.lba,y.r.n,y.r.ver,z',o'⟩) (by rw[←HE.out];exact HM.out))
  have OB:=Lib.hid (OwnsL.built (base:=w.heap.size) (w:=w4) ⟨y.r.lba,y.r.n,y.r.ver,z',o'⟩ L4.out.size)
  have L5:=Lib.hid (L4.out.alloc L4.out.size (.cells #[.int .i64 y.r.lba,.int .i64 y.r.n,.int .i64 y.r.ver,.int .i64 z',.int .i64 o'] 60))
  go_wp2_with (first
   |(go_at_call 92;refine HT.out.mono ?_;rintro e w5 ⟨rfl,rfl⟩)
   |(go_at_call 95;refine(offer_any (OwnsL.row OB.out (by omega)) (by intro x hx;rw[List.mem_singleton] at hx;rw[hx,←HE.out];exact HM.out) (by omega)).mono ?_;rintro e w6 ⟨m,hof,⟨B,n,d,rfl,hO⟩,hb⟩;have O6:=Lib.hid (OwnsL.mono hO L5.out.size);have L6:=Lib.hid (L5.out.trans (hb.mono L5.out.size));have F6:=Lib.hid hof;clear hO hb hof))
  go_ret2
  refine⟨⟨B,n,d,rfl,?_⟩,L6.out⟩
  have:=O6.out
  rw[hone.out _ F6.out,←HE.out] at this
  exact this
end Vm
end
section
open Go.RowKit Go.Shelf Mem Box Zns
attribute [local go_sem] Oper.semAt_some
namespace Rp
open Seg (Hdr Rc Rv fits nums hnums nn frame headX recX frames check headAt Scans sized FoundIn starts)
open Pk (rvV RBox seven_cells seven_free set7 mov7 placeR flen places)
open Zon (Zn Zv B8 cellsZ)
open Vm (exR)
open Ext (MayX Ex)
structure Good1 (r:Rc) (z o:Int):Prop where
 fit:fits (nums r)
 chk:check r=0
 kind:r.kind=1∨r.kind=2
 z0:0≤z
 o0:0≤o
 o1:o≤1099511627776
 may:MayX (exR r z o)
structure Pl where
 y:Rv
 z:Int
 o:Int
abbrev PlG:= {p:Pl//Good1 p.y.r p.z p.o}
def plv (p:Pl):Value:= .agg #[.int .i64 p.y.r.kind,.int .i64 p.y.r.lba,.int .i64 p.y.r.n,.int .i64 p.y.r.ver,.int .i64 p.y.r.zone,.int .i64 p.y.r.off,.slice p.y.D p.y.r.data.length p.y.c,.int .i64 p.z,.int .i64 p.o]
def encP (p:PlG):Array Value:= #[plv p.1]
abbrev Tr:=Rc × Int × Int
def plain (p:PlG):Tr:=(p.1.y.r,p.1.z,p.1.o)
def trs (z:Int) (e:Int):List Rc→List Tr
 | []=> []
 |r::l=>(r,z,e+placeR r)::trs z (e+(flen r:Int)) l
def trF (z:Nat) (f:Fd):List Tr:=trs (z:Int) (f.u0:Int) f.rs
def fdAt (fs:List Fd) (z:Nat):Fd:=fs.getD z Fd.no
def trAll (fs:List Fd) (zs:List Nat):List Tr:=zs.flatMap fun z=>trF z (fdAt fs z)
theorem trs_take_succ {z:Int}:∀ {l:List Rc} {e:Int} {k:Nat} {r:Rc},l[k]? =some r→(trs z e l).take (k+1)=(trs z e l).take k++ [(r,z,e+((frames (l.take k)).length:Int)+placeR r)]
 | [],_,_,_,h=>by simp at h
 |a::l,e,0,r,h=>by
  simp only[List.getElem?_cons_zero,Option.some.injEq] at h
  subst h
  simp[trs,Pk.frames_nil]
 |a::l,e,k+1,r,h=>by
  rw[List.getElem?_cons_succ] at h
  rw[trs,List.take_succ_cons,List.take_succ_cons,trs_take_succ h,List.take_succ_cons,Pk.frames_len_cons,List.cons_append]
  congr 3
  congr 1
  rw[Int.natCast_add]
  congr 1
  omega
theorem trs_len {z:Int}:∀ {l:List Rc} {e:Int},(trs z e l).length=l.length
 | [],_=>rfl
 |a::l,e=>by rw[trs,List.length_cons,List.length_cons,trs_len]
theorem starts_get:∀ {l:List Rc} {u k:Nat} {r:Rc},l[k]? =some r→(starts u (sized l))[k]? =some (((u+(frames (l.take k)).length:Nat)):Int)
 | [],_,_,_,h=>by simp at h
 |a::l,u,0,r,h=>by simp[sized,starts,Pk.frames_nil]
 |a::l,u,k+1,r,h=>by
  rw[List.getElem?_cons_succ] at h
  have e:sized (a::l)=(a,flen a)::sized l:=rfl
  rw[e,starts,List.getElem?_cons_succ,starts_get h,List.take_succ_cons,Pk.frames_len_cons]
  congr 2
  omega
theorem trAll_split {fs:List Fd}:∀ {zs:List Nat} {k z:Nat},zs[k]? =some z→trAll fs zs=trAll fs (zs.take k)++(trF z (fdAt fs z)++trAll fs (zs.drop (k+1)))
 | [],_,_,h=>by simp at h
 |a::l,0,z,h=>by
  simp only[List.getElem?_cons_zero,Option.some.injEq] at h
  subst h
  rfl
 |a::l,k+1,z,h=>by
  rw[List.getElem?_cons_succ] at h
  have:=trAll_split (fs:=fs) h
  show trF a (fdAt fs a)++trAll fs l=(trF a (fdAt fs a)++trAll fs (l.take k))++(trF z (fdAt fs z)++trAll fs (l.drop (k+1)))
  rw[this,List.append_assoc]
theorem trAll_succ {fs:List Fd} {zs:List Nat} {k z:Nat} (h:zs[k]? =some z):trAll fs (zs.take (k+1))=trAll fs (zs.take k)++trF z (fdAt fs z):=by
 unfold trAll
 rw[List.take_add_one,h,List.flatMap_append]
 simp
def AllGood (fs:List Fd) (zs:List Nat):Prop:=∀x∈trAll fs zs,Good1 x.1 x.2.1 x.2.2
theorem recs_made {X:Dx} {A:Option Addr} {n c:Nat} {w:World}:
  Calls Tryz.prog 31 #[.agg #[.int .i64 X.cap,.int .i64 X.op,.int .i64 X.ac,.slice X.A X.n X.c],.slice A n c] w fun e w'=>e= .returned (.func (.func 61) #[] #[.pointer (some ⟨w.heap.size+1,0,none⟩),.pointer (some ⟨w.heap.size,0,none⟩)])∧w'=(w.alloc (.cells #[.int .i64 X.cap,.int .i64 X.op,.int .i64 X.ac,.slice X.A X.n X.c] 26)).alloc (.cells #[.slice A n c] 34):=by
 have hmf:∀(fn:Fn) (first cap:Array Value) (w:World),(Instr.makeFunc fn first cap).run Tryz.prog w= .ok (.func fn first cap) w:=fun _ _ _ _=>rfl
 go_enter Tryz.func31,Tryz.ntmps31
 go_wp2_with fail
 go_ret
 exact⟨by simp,rfl⟩
section
variable {S:List Nat} {T:List TypeId} {X:Dx} {fs:List Fd} {zs:List Nat} {zb db:Nat} {IA:Option Addr} {IC N:Nat}
structure Src (S:List Nat) (T:List TypeId) (N:Nat) (X:Dx) (fs:List Fd) (zs:List Nat) (zb db:Nat) (IA:Option Addr) (IC:Nat) (w:World):Prop where
 dev:Dev w X fs
 row:Row ci w IA zs.length IC (zs.map fun(z:Nat)=>(z:Int))
 bz:Cells w zb 34 #[.slice IA zs.length IC]
 bd:Cells w db 26 #[.int .i64 X.cap,.int .i64 X.op,.int .i64 X.ac,.slice X.A X.n X.c]
 zin:∀z∈zs,z<X.n
 nz:zb∉S∧zb<N
 nd:db∉S∧db<N
 nr:OutS S T N w IA zs.length
 nx:OutS S T N w X.A X.n
 nv:∀v∈X.xs,OutS S T N w v.D v.z.data.length
 lt:(∀q∈S,q<N)∧N≤w.heap.size
theorem Src.kp {W W':World} (h:Src S T N X fs zs zb db IA IC W) (k:KpC S T N W W'):Src S T N X fs zs zb db IA IC W':=
 ⟨⟨⟨rowS_kp h.dev.at_.row k h.nx,fun x hx=>row_kp (h.dev.at_.data x hx) k (h.nv x hx)⟩,h.dev.ok,h.dev.fit,h.dev.len⟩,row_kp h.row k h.nr,k.box h.nz.1 (.inl h.nz.2) h.bz,k.box h.nd.1 (.inl h.nd.2) h.bd,h.zin,h.nz,h.nd,h.nr.kp k,h.nx.kp k,fun v hv=>(h.nv v hv).kp k,h.lt.1,Nat.le_trans h.lt.2 k.size⟩
def TOk (T:List TypeId):Prop:=49∉T∧3∉T∧5∉T∧71∉T
end
section
variable {S:List Nat} {T:List TypeId} {w:World} {X:Dx} {fs:List Fd} {zs:List Nat} {zb db:Nat} {IA:Option Addr} {IC N M:Nat}
theorem recs_in (n:Nat) (hn:3≤n) (l:Nat) (h:Src S T N X fs zs zb db IA IC w) (hT:TOk T) (hg:AllGood fs zs) (hM:(trAll fs zs).length≤M) (J Jx:List PlG→World→Prop) (hJ:AbidesFrom w.heap.size J)
  (hY:∀pre x W,J pre W→pre.length<M→YieldAt Fence.wide (n-1) Tryz.prog l (encP x) W fun e W'=>
   (e= .returned (.bool true)∧J (pre++ [x]) W'∧KpC S T N W W')∨(e= .returned (.bool false)∧Jx (pre++ [x]) W'))
  (h0:J [] w):
  CallsIn Fence.wide n Tryz.prog 61 #[.func (.yield l) #[] #[],.pointer (some ⟨zb,0,none⟩),.pointer (some ⟨db,0,none⟩)] w fun e W'=>(∃v,e= .returned v)∧
   ((∃ys,ys.map plain=trAll fs zs∧J ys W')∨(∃pre,True∧Jx pre W')):=by
 have h1:1≤n:=by omega
 have HS:=Lib.hid h
 have HG:=Lib.hid hg
 have HTO:=Lib.hid hT
 have HM:=Lib.hid hM
 have HJ:=Lib.hid hJ
 have HY:=Lib.hid hY
 have HN:=Lib.hid hn
 have H0:=Lib.hid h0
 have hzl:=h.row.big
 clear h hg hM hJ hY hn h0 hT
 refine callsIn_of_wp Tryz.func61 rfl trivial ?_ rfl
 simp only[Tryz.ntmps61,List.size_toArray,List.length_cons,List.length_nil,Nat.reduceAdd,Nat.reduceSub,Array.replicate_succ,Array.replicate_zero,List.push_toArray,List.append_toArray,List.nil_append,List.cons_append]
 have mz:w.cell? ⟨zb,0,none⟩=some (.slice IA zs.length IC):=Cells.cell HS.out.bz 0
 gi_wp2
 clear mz
 gi_loopw [5,6,7,8,9,10,13] (fun _ _ _ _ _ _ i wr=>∃k:Nat,i= .int .i64 k∧k≤zs.length∧Hid (KpC S T N w wr∧∃pre:List PlG,pre.map plain=trAll fs (zs.take k)∧J pre wr)) (fun _ _ _ _ _ _ i _=>zs.length-(intOf i).toNat)
 case atStart=>exact⟨0,rfl,by omega,KpC.refl _ _ _ _,[],rfl,H0.out⟩
 case round=>
  obtain⟨k,rfl,hk,hH⟩:=hrel
  by_cases hlt:k<zs.length
  ·have hk1:(k:Int)<(zs.length:Int):=by omega
   have hk0:(0:Int)≤(k:Int):=by omega
   have SR:=Lib.hid (HS.out.kp hH.out.1)
   obtain⟨z,hz⟩:∃z,zs[k]? =some z:=⟨_,List.getElem?_eq_getElem hlt⟩
   have hzX:=HS.out.zin z (List.mem_of_getElem? hz)
   obtain⟨bi,oi,eI,ciz⟩:=SR.out.row.cell (i:=k) (x:=(z:Int)) (by rw[List.getElem?_map,hz];rfl)
   obtain⟨v,f,hv,hf,hhf,hrow,hcap⟩:=SR.out.dev.zone hzX
   obtain⟨b,o,hA,hb,hc⟩:=SR.out.dev.at_.row.elem hv
   have cz:wr.cell? ⟨bi,oi+k,none⟩=some (.int .i64 (z:Int)):=ciz
   have c0:wr.cell? ⟨b,o+z*3,none⟩=some (.int .i64 v.z.st):=hc wr rfl 0 _ rfl
   have c1:wr.cell? ⟨b,o+z*3+1,none⟩=some (.int .i64 v.z.fc):=hc wr rfl 1 _ rfl
   have c2:wr.cell? ⟨b,o+z*3+2,none⟩=some (.slice v.D v.z.data.length v.c):=hc wr rfl 2 _ rfl
   have m3:wr.cell? ⟨db,3,none⟩=some (.slice (some ⟨b,o,none⟩) X.n X.c):=by rw[←hA];exact Cells.cell SR.out.bd 3
   have hz0:(0:Int)≤(z:Int):=by omega
   have hz1:(z:Int)<(X.n:Int):=by omega
   have HZ:=Lib.hid (zone_any hrow (by omega) hhf)
   have HMANY:=Lib.hid hhf.many
   have HGOOD:=Lib.hid hhf.good
   have HF:=Lib.hid hf
   have HZK:=Lib.hid hz
   subst eI
   clear hz hzX ciz hv hf hhf hrow hA hb hc
   gi_wp2_with (refine⟨trivial,?_⟩;gi_at_call 21;refine(callsIn_wide.2 HZ.out).mono ?_;rintro e w3 ⟨ys,LA,LC,AA,AC,rfl,hF,hb⟩;have F3:=Lib.hid hF;have L3:=Lib.hid hb;clear hF hb)
   have L4:=Lib.hid (L3.out.alloc L3.out.size (.cells #[.bool f.hd,.int .i64 f.h.host,.int .i64 f.h.epoch,.int .i64 f.h.seq,.slice LA f.rs.length LC,.slice AA f.rs.length AC,.int .i64 (f.used:Int)] 71))
   have F4:=Lib.hid (F3.out.below ((Below.refl _ w3).alloc (Nat.le_refl _) (.cells #[.bool f.hd,.int .i64 f.h.host,.int .i64 f.h.epoch,.int .i64 f.h.seq,.slice LA f.rs.length LC,.slice AA f.rs.length AC,.int .i64 (f.used:Int)] 71)))
   have X4:Hid (FBox (w3.alloc (.cells #[.bool f.hd,.int .i64 f.h.host,.int .i64 f.h.epoch,.int .i64 f.h.seq,.slice LA f.rs.length LC,.slice AA f.rs.length AC,.int .i64 (f.used:Int)] 71)) w3.heap.size f LA LC AA AC):=Cells.new _ _ _
   have G3:Hid (wr.heap.size≤w3.heap.size):=L3.out.size
   generalize w3.alloc (.cells #[.bool f.hd,.int .i64 f.h.host,.int .i64 f.h.epoch,.int .i64 f.h.seq,.slice LA f.rs.length LC,.slice AA f.rs.length AC,.int .i64 (f.used:Int)] 71)=w4 at*
   clear L3 F3 cz c0 c1 c2 m3 HZ
   have hr1:f.rs.length≤65536:=by have:=HMANY.out;omega
   have HNS:=fun(q:Nat) (h:wr.heap.size≤q)=>Lib.hid (show q∉S from fun hq=>by have h1:=SR.out.lt.1 q hq;have h2:=SR.out.lt.2;omega)
   have R4:=Lib.hid (show RowS Seg.cellsOf 7 w4 LA f.rs.length LC ys∧OutS S T N w4 LA f.rs.length∧Row ci w4 AA f.rs.length AC (starts f.u0 (sized f.rs))∧OutS S T N w4 AA f.rs.length∧(∀y∈ys,Row cb w4 y.D y.r.data.length y.c y.r.data∧OutS S T N w4 y.D y.r.data.length)∧ys.map Rv.r=f.rs from by
    obtain⟨q1,q2,q3,q4⟩:=F4.out
    rw[Seg.sized_len] at q1 q2
    rw[Seg.sized_fst] at q4
    have hS:∀q∈S,q<wr.heap.size:=fun q hq=>Nat.lt_of_lt_of_le (SR.out.lt.1 q hq) SR.out.lt.2
    refine⟨OwnS.Owns.row Pk.fitR q1 (by omega),out_own q1.1 hS (.inl HTO.out.1),(Wire.gave_row q2 (by rw[Seg.starts_len,Seg.sized_len];omega)).1,out_own q2 hS (.inl HTO.out.2.1),fun y hy=> ?_,q4⟩
    have hyl:y.r.data.length≤32768:=by
     have hm:y.r∈f.rs:=by rw[←q4];exact List.mem_map_of_mem hy
     exact(Seg.check_ok (HGOOD.out _ hm).1).2
    exact⟨(Wire.gave_row (q3 y hy) (by omega)).1,out_own (q3 y hy) hS (.inl HTO.out.2.2.1)⟩)
   have c4:w4.cell? ⟨w3.heap.size,4,none⟩=some (.slice LA f.rs.length LC):=Cells.cell X4.out 4
   have KW:=Lib.hid (show KpC S T N w w4 from hH.out.1.trans (KpC.of_below S T N L4.out))
   have HST:Hid (∃pre:List PlG,pre.map plain=trAll fs (zs.take k)++(trF z f).take 0∧J pre w4):=by
    obtain⟨pre,hp,hj⟩:=hH.out.2
    exact⟨pre,by simpa using hp,abides_below (W:=wr) (fun s A B row h1 h2 h3=>HJ.out s A B row h1 h2 (fun r hr=>⟨Nat.le_trans hH.out.1.size (h3 r hr).1,(h3 r hr).2⟩)) hj L4.out⟩
   clear F4
   gi_wp2
   clear c4
   obtain⟨wo,hwo⟩:∃q,q=wr:=⟨_,rfl⟩
   subst hwo
   gi_loopw [7,8,9,10,26] (fun _ _ _ _ i wr=>∃j:Nat,i= .int .i64 j∧j≤f.rs.length∧Hid (KpC S T N w4 wr∧∃pre:List PlG,pre.map plain=trAll fs (zs.take k)++(trF z f).take j∧J pre wr)) (fun _ _ _ _ i _=>f.rs.length-(intOf i).toNat)
   case atStart=>exact⟨0,rfl,by omega,KpC.refl _ _ _ _,HST.out⟩
   case round=>
    obtain⟨j,rfl,hj,hI⟩:=hrel
    clear HST
    by_cases hlj:j<f.rs.length
    ·have hj1:(j:Int)<(f.rs.length:Int):=by omega
     have hj0:(0:Int)≤(j:Int):=by omega
     obtain⟨y,hy⟩:∃y,ys[j]? =some y:=by
      have:ys.length=f.rs.length:=R4.out.1.len
      exact⟨_,List.getElem?_eq_getElem (by omega)⟩
     have hyr:f.rs[j]? =some y.r:=by rw[←R4.out.2.2.2.2.2,List.getElem?_map,hy];rfl
     obtain⟨b2,o2,hL,hb2,hc2⟩:=(rowS_kp R4.out.1 hI.out.1 R4.out.2.1).elem hy
     subst hL
     have d0:wr.cell? ⟨b2,o2+j*7,none⟩=some (.int .i64 y.r.kind):=hc2 wr rfl 0 _ rfl
     have d1:wr.cell? ⟨b2,o2+j*7+1,none⟩=some (.int .i64 y.r.lba):=hc2 wr rfl 1 _ rfl
     have d2:wr.cell? ⟨b2,o2+j*7+2,none⟩=some (.int .i64 y.r.n):=hc2 wr rfl 2 _ rfl
     have d3:wr.cell? ⟨b2,o2+j*7+3,none⟩=some (.int .i64 y.r.ver):=hc2 wr rfl 3 _ rfl
     have d4:wr.cell? ⟨b2,o2+j*7+4,none⟩=some (.int .i64 y.r.zone):=hc2 wr rfl 4 _ rfl
     have d5:wr.cell? ⟨b2,o2+j*7+5,none⟩=some (.int .i64 y.r.off):=hc2 wr rfl 5 _ rfl
     have d6:wr.cell? ⟨b2,o2+j*7+6,none⟩=some (.slice y.D y.r.data.length y.c):=hc2 wr rfl 6 _ rfl
     obtain⟨ba,oa,eA,caj⟩:=(row_kp R4.out.2.2.1 hI.out.1 R4.out.2.2.2.1).cell (starts_get (u:=f.u0) hyr)
     subst eA
     have ca:wr.cell? ⟨ba,oa+j,none⟩=some (.int .i64 ((f.u0+(frames (f.rs.take j)).length:Nat):Int)):=caj
     have hgood:=HGOOD.out y.r (List.mem_of_getElem? hyr)
     have hyd:=R4.out.2.2.2.2.1 y (List.mem_of_getElem? hy)
     have HDA:=fun W (hW:Below wr.heap.size wr W)=>Lib.hid (data_any hgood.2 hgood.1 ((row_kp hyd.1 hI.out.1 hyd.2).below hW))
     have HTS:=Lib.hid (trs_take_succ (z:=(z:Int)) (e:=(f.u0:Int)) hyr)
     have hub:f.u0+(frames (f.rs.take j)).length≤65536:=by
      have h1:=HMANY.out.2.2
      have h2:=Seg.frames_mono f.rs (Nat.le_of_lt hlj)
      rw[List.take_length] at h2
      omega
     have hpb:0≤placeR y.r∧placeR y.r≤40100:=by
      have h1:=Pk.placeR_ge y.r
      have h2:=Pk.placeR_le y.r
      have h3:=Pk.flen_le hgood.2 hgood.1
      omega
     have HUB:=Lib.hid (show((f.u0+(frames (f.rs.take j)).length:Nat):Int)=(f.u0:Int)+((frames (f.rs.take j)).length:Int) from by omega)
     have hws:IntKind.i64.wrap (((f.u0+(frames (f.rs.take j)).length:Nat):Int)+placeR y.r)=((f.u0+(frames (f.rs.take j)).length:Nat):Int)+placeR y.r:=by rw[IntKind.wrap_i64];omega
     have HYR:=Lib.hid hyr
     generalize hU:((f.u0+(frames (f.rs.take j)).length:Nat):Int)=U at*
     generalize hPR:placeR y.r=PR at*
     have HPR:=Lib.hid (And.intro hU hPR)
     clear hy hyr hb2 hc2 caj hgood hyd hub hpb hU hPR
     have A5:Hid (Below wr.heap.size wr (wr.alloc (.cells #[.int .i64 y.r.kind,.int .i64 y.r.lba,.int .i64 y.r.n,.int .i64 y.r.ver,.int .i64 y.r.zone,.int .i64 y.r.off,.slice y.D y.r.data.length y.c] 49))):=(Below.refl _ wr).alloc (Nat.le_refl _) _
     have B5:Hid (RBox (wr.alloc (.cells #[.int .i64 y.r.kind,.int .i64 y.r.lba,.int .i64 y.r.n,.int .i64 y.r.ver,.int .i64 y.r.zone,.int .i64 y.r.off,.slice y.D y.r.data.length y.c] 49)) wr.heap.size y):=Cells.new _ _ _
     have G5:Hid (wo.heap.size≤wr.heap.size):=Nat.le_trans L4.out.size hI.out.1.size
     gi_wp2_with fail
     refine⟨trivial,?_⟩
     gi_at_call 62
     refine(callsIn_wide.2 (HDA _ A5.out).out).mono ?_
     rintro e w6 ⟨rfl,hb⟩
     have A6:Hid (Below wr.heap.size wr w6.drew):=(A5.out.trans (hb.mono A5.out.size)).drew
     have B6:Hid (RBox w6.drew wr.heap.size y):=Cells.drew (Cells.below B5.out hb)
     have X6:Hid (FBox w6.drew w3.heap.size f (some ⟨b2,o2,none⟩) LC (some ⟨ba,oa,none⟩) AC):=(hI.out.1.trans (KpC.of_below S T N A6.out)).box (HNS w3.heap.size G3.out).out (.inr HTO.out.2.2.2) X4.out
     have ca6:w6.drew.cell? ⟨ba,oa+j,none⟩=some (.int .i64 U):=(World.cell?_of_block (a:=⟨ba,oa+j,none⟩) (A6.out.block ba (by obtain⟨_,_,_,h⟩:=cell_obj ca;exact(Array.getElem?_eq_some_iff.1 h).1))).trans ca
     have K6:=Lib.hid (hI.out.1.trans (KpC.of_below S T N A6.out))
     clear hb d0 d1 d2 d3 d4 d5 d6 ca A5 B5 HDA
     obtain⟨m0,m1,m2,m3,m4,m5,m6⟩:=seven_cells B6.out
     have x5:w6.drew.cell? ⟨w3.heap.size,5,none⟩=some (.slice (some ⟨ba,oa,none⟩) f.rs.length AC):=Cells.cell X6.out 5
     have n0:w6.cell? ⟨wr.heap.size,0,none⟩=some (.int .i64 y.r.kind):=m0
     have n1:w6.cell? ⟨wr.heap.size,1,none⟩=some (.int .i64 y.r.lba):=m1
     have n2:w6.cell? ⟨wr.heap.size,2,none⟩=some (.int .i64 y.r.n):=m2
     have n3:w6.cell? ⟨wr.heap.size,3,none⟩=some (.int .i64 y.r.ver):=m3
     have n4:w6.cell? ⟨wr.heap.size,4,none⟩=some (.int .i64 y.r.zone):=m4
     have n5:w6.cell? ⟨wr.heap.size,5,none⟩=some (.int .i64 y.r.off):=m5
     have n6:w6.cell? ⟨wr.heap.size,6,none⟩=some (.slice y.D y.r.data.length y.c):=m6
     have x5':w6.cell? ⟨w3.heap.size,5,none⟩=some (.slice (some ⟨ba,oa,none⟩) f.rs.length AC):=x5
     have ca6':w6.cell? ⟨ba,oa+j,none⟩=some (.int .i64 U):=ca6
     obtain⟨pre,hpre,hJp⟩:=hI.out.2
     have HP:=Lib.hid hpre
     have hJ6:J pre w6.drew:=abides_below (W:=wr) (fun s A B row h1 h2 h3=>HJ.out s A B row h1 h2 (fun r hr=>⟨Nat.le_trans (Nat.le_trans hH.out.1.size G5.out) (h3 r hr).1,(h3 r hr).2⟩)) hJp A6.out
     have hel:(y.r,(z:Int),U+PR)∈trAll fs zs∧pre.length<M:=by
      have h1:=HTS.out
      rw[←HUB.out] at h1
      have h2:fdAt fs z=f:=by unfold fdAt;rw[List.getD_eq_getElem?_getD,HF.out];rfl
      have h3:=trAll_split (fs:=fs) HZK.out
      rw[h2] at h3
      have h4:(trF z f).length=f.rs.length:=trs_len
      have h5:=congrArg List.length HP.out
      rw[List.length_map,List.length_append,List.length_take,h4] at h5
      have h6:=congrArg List.length h3
      rw[List.length_append,List.length_append,h4] at h6
      refine⟨?_,by have:=HM.out;omega⟩
      rw[h3]
      refine List.mem_append_right _ (List.mem_append_left _ (List.mem_of_mem_take (i:=j+1) ?_))
      have h7:(trF z f).take (j+1)=(trF z f).take j++ [(y.r,(z:Int),U+PR)]:=h1
      rw[h7]
      simp
     have H7:=Lib.hid (show(trF z f).take (j+1)=(trF z f).take j++ [(y.r,(z:Int),U+PR)] from by have h1:=HTS.out;rw[←HUB.out] at h1;exact h1)
     have hgx:=HG.out _ hel.1
     obtain⟨fn,tmps,assign,body,hy,hR⟩:=HY.out pre ⟨⟨y,(z:Int),U+PR⟩,hgx⟩ w6.drew hJ6 hel.2
     dsimp only[encP,plv] at hy
     have mixed:Tryz.prog.follows .mixedOrders=true:=by kernel_rfl
     clear hpre hJp hJ6 hel
     gi_wp2_with fail
     clear m0 m1 m2 m3 m4 m5 m6 x5 ca6
     have hR2:=hR.mono (R':=fun e W'=>∃q:Bool,e= .returned (.bool q)∧Hid ((q=true∧J (pre++ [⟨⟨y,(z:Int),U+PR⟩,hgx⟩]) W'∧KpC S T N w6.drew W')∨(q=false∧Jx (pre++ [⟨⟨y,(z:Int),U+PR⟩,hgx⟩]) W'))) (by
      rintro e W' (⟨rfl,h1,h2⟩|⟨rfl,h1⟩)
      ·exact⟨true,rfl,.inl ⟨rfl,h1,h2⟩⟩
      ·exact⟨false,rfl,.inr ⟨rfl,h1⟩⟩)
     clear hR
     gi_region_with_o (refine hR2.mono ?_;rintro e W3 ⟨q,rfl,hQ3⟩)
     all_goals
      rcases hQ3.out with⟨rfl,hJ3,hk3⟩|⟨rfl,hJx3⟩
      ·gi_wp2
       go_roundw
       case rel=>exact⟨j+1,by go_num,by omega,K6.out.trans hk3,_,by rw[List.map_append,HP.out,H7.out,List.append_assoc];rfl,hJ3⟩
       case measure=>simp[intOf];omega
      ·gi_wp2
       refine bodyPost_ret (results_none rfl _ _ _) rfl ?_
       exact⟨⟨_,rfl⟩,.inr ⟨_,by first|exact hJx3|exact⟨trivial,hJx3⟩⟩⟩
    ·have HJE:Hid ((trF z f).take j=trF z f):=by show _=_;rw[List.take_of_length_le];show(trs _ _ _).length≤j;rw[trs_len];omega
     gi_wp2
     go_roundw
     case rel=>
      obtain⟨pre,hp,hj4⟩:=hI.out.2
      rw[HJE.out] at hp
      refine⟨k+1,by go_num,by omega,KW.out.trans hI.out.1,pre,?_,hj4⟩
      have h2:fdAt fs z=f:=by unfold fdAt;rw[List.getD_eq_getElem?_getD,HF.out];rfl
      rw[hp,trAll_succ HZK.out,h2]
     case measure=>simp[intOf];omega
  ·gi_wp2
   go_end0
   obtain⟨pre,hp,hj4⟩:=hH.out.2
   rw[List.take_of_length_le (by omega)] at hp
   exact⟨⟨_,rfl⟩,.inl ⟨pre,hp,hj4⟩⟩
theorem recs_stops (n:Nat) (hn:3≤n) (h:Src S T N X fs zs zb db IA IC w) (hT:TOk T) (hg:AllGood fs zs):SeqStopsK Fence.wide n Tryz.prog 61 #[.pointer (some ⟨zb,0,none⟩),.pointer (some ⟨db,0,none⟩)] encP (KpC S T N) (fun ys=>ys.map plain=trAll fs zs) (fun _=>True) (trAll fs zs).length w:=
 fun l J Jx W hW hJ _ hY h0=>recs_in n hn l (h.kp (KpC.of_below S T N hW)) hT hg (Nat.le_refl _) J Jx hJ hY h0
end
end Rp
end
end Go.Proofs.YtmkagjnkpjpjcaaGreat
