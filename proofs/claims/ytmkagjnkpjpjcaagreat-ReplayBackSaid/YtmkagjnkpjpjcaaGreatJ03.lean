/-
  SEVERAL TEXTS IN ONE FILE: PExtMem, PExtOwn, PExtEq, PExtOne, PVmCmp, PVmLayA, PVmSorted.
-/
import Derived.Test.YtmkagjnkpjpjcaaGreatJ02
import Derived.LoopTactic
import Derived.Deep.LoopGhost
import Derived.Deep.DeepCutAuto
import Derived.Lib.LazyBuf
import Derived.Lib.AppendZeros
import Derived.BigQuiet
import Derived.DeepKeys
import Derived.Deep.MidRow
import Derived.WalkSmall
import Derived.Laws.StructEq
import Derived.Test.YtmkagjnkpjpjcaaGreatRows
import Derived.Shelf.SlSortCmp.KitK
import Derived.Shelf.SlLaysF0
import Derived.Shelf.SlLaysE0
import Derived.Shelf.SlSortCmp.PdqK
import Derived.Sort.OwnSortedInts
import Derived.Shelf.Abstract
namespace Go.Proofs.YtmkagjnkpjpjcaaGreat
set_option maxRecDepth 100000
set_option linter.unusedSimpArgs false
set_option linter.unusedVariables false
set_option maxHeartbeats 6400000
section
open Go.RowKit Mem
namespace Ext
theorem frozen_of {w:World} {g:Nat} {cs:Array Value} {t:TypeId} (h:w.heap[g]? =some (.cells cs t (0,0))) (i:Nat):w.frozen? ⟨g,i,none⟩=false:=by simp[World.frozen?,h]
theorem heap_set {w:World} {g:Nat} {cs:Array Value} {e:TypeId} (h:w.heap[g]? =some (.cells cs e (0,0))) (i:Nat) (v:Value):(w.setCell ⟨g,i,none⟩ v).heap[g]? =some (.cells (cs.setIfInBounds i v) e (0,0)):=by
 simp[World.setCell,Array.getElem?_modify,h]
def Cells (w:World) (g:Nat) (t:TypeId) (cs:Array Value):Prop:=w.heap[g]? =some (.cells cs t (0,0))
section
variable {w w':World} {g:Nat} {t:TypeId} {cs:Array Value}
theorem Cells.below (h:Cells w g t cs) (hb:Below w.heap.size w w'):Cells w' g t cs:=(hb.block _ (Array.getElem?_eq_some_iff.1 h).1).trans h
theorem Cells.lt (h:Cells w g t cs):g<w.heap.size:=(Array.getElem?_eq_some_iff.1 h).1
theorem Cells.cell (h:Cells w g t cs) (i:Nat):w.cell? ⟨g,i,none⟩=cs[i]? :=cell_of_row _ _ _ _ _ _ h
theorem Cells.frozen (h:Cells w g t cs) (i:Nat):w.frozen? ⟨g,i,none⟩=false:=frozen_of h i
theorem Cells.set_ (h:Cells w g t cs) (i:Nat) (v:Value):Cells (w.setCell ⟨g,i,none⟩ v) g t (cs.setIfInBounds i v):=heap_set h i v
theorem Cells.set_other {g':Nat} (h:Cells w g t cs) (hne:g'≠g) (i:Nat) (v:Value):Cells (w.setCell ⟨g',i,none⟩ v) g t cs:=(Below.heap_setCell _ _ _ _ (Ne.symm hne)).trans h
theorem Cells.new (w:World) (cs:Array Value) (t:TypeId):Cells (w.alloc (.cells cs t)) w.heap.size t cs:=heap_alloc_new w _
theorem Cells.alloc (h:Cells w g t cs) (o:Obj):Cells (w.alloc o) g t cs:=h.below ((Below.refl _ w).alloc (Nat.le_refl _) o)
theorem Cells.low {b:Nat} (h:Cells w g t cs) (hg:g<b) (hb:Below b w w'):Cells w' g t cs:=(hb.block _ hg).trans h
theorem Cells.drew (h:Cells w g t cs):Cells w.drew g t cs:=h
end
def cellsL (x:Ex):List Value:= [.int .i64 x.lba,.int .i64 x.n,.int .i64 x.ver,.int .i64 x.zone,.int .i64 x.off]
abbrev xv (x:Ex):Value:= .agg #[.int .i64 x.lba,.int .i64 x.n,.int .i64 x.ver,.int .i64 x.zone,.int .i64 x.off]
abbrev LBox (w:World) (g:Nat) (x:Ex):Prop:=Cells w g 60 #[.int .i64 x.lba,.int .i64 x.n,.int .i64 x.ver,.int .i64 x.zone,.int .i64 x.off]
abbrev OneBox (w:World) (g:Nat) (t:TypeId) (v:Value):Prop:=Cells w g t #[v]
theorem LBox.cells {w:World} {g:Nat} {x:Ex} (h:LBox w g x):w.cell? ⟨g,0,none⟩=some (.int .i64 x.lba)∧w.cell? ⟨g,1,none⟩=some (.int .i64 x.n)∧w.cell? ⟨g,2,none⟩=some (.int .i64 x.ver)∧w.cell? ⟨g,3,none⟩=some (.int .i64 x.zone)∧w.cell? ⟨g,4,none⟩=some (.int .i64 x.off):=
 ⟨Cells.cell h 0,Cells.cell h 1,Cells.cell h 2,Cells.cell h 3,Cells.cell h 4⟩
theorem LBox.frozen {w:World} {g:Nat} {x:Ex} (h:LBox w g x):w.frozen? ⟨g,0,none⟩=false∧w.frozen? ⟨g,1,none⟩=false∧w.frozen? ⟨g,2,none⟩=false∧w.frozen? ⟨g,3,none⟩=false∧w.frozen? ⟨g,4,none⟩=false:=
 ⟨Cells.frozen h 0,Cells.frozen h 1,Cells.frozen h 2,Cells.frozen h 3,Cells.frozen h 4⟩
theorem OneBox.cells {w:World} {g:Nat} {t:TypeId} {v:Value} (h:OneBox w g t v):w.cell? ⟨g,0,none⟩=some v:=Cells.cell h 0
theorem Cells.set4 {w:World} {q:Nat} {t:TypeId} {a b c d e:Value} (h:Cells w q t #[a,b,c,d,e]) (x y z v:Value):Cells ((((w.setCell ⟨q,0,none⟩ x).setCell ⟨q,1,none⟩ y).setCell ⟨q,2,none⟩ z).setCell ⟨q,3,none⟩ v) q t #[x,y,z,v,e]:=
 Cells.set_ (Cells.set_ (Cells.set_ (Cells.set_ h 0 x) 1 y) 2 z) 3 v
theorem Cells.set5 {w:World} {q:Nat} {t:TypeId} {a b c d e:Value} (h:Cells w q t #[a,b,c,d,e]) (x y z v u:Value):Cells (((((w.setCell ⟨q,0,none⟩ x).setCell ⟨q,1,none⟩ y).setCell ⟨q,2,none⟩ z).setCell ⟨q,3,none⟩ v).setCell ⟨q,4,none⟩ u) q t #[x,y,z,v,u]:=
 Cells.set_ (Cells.set4 h x y z v) 4 u
structure But (g:Nat) (w w':World):Prop where
 by_:w.grownBy w' (some g)
section
variable {g:Nat} {w w' w'':World}
theorem But.refl (g:Nat) (w:World):But g w w:=⟨⟨rfl,rfl,rfl,Nat.le_refl _,fun _ _ _=>rfl⟩⟩
theorem But.trans (h:But g w w') (k:But g w' w''):But g w w'':=
 ⟨⟨k.1.os.trans h.1.os,k.1.tape.trans h.1.tape,k.1.output.trans h.1.output,Nat.le_trans h.1.size k.1.size,fun i hi hn=>(k.1.block i (Nat.lt_of_lt_of_le hi h.1.size) hn).trans (h.1.block i hi hn)⟩⟩
theorem But.block (h:But g w w') {k:Nat} (hk:k<w.heap.size) (hn:k≠g):w'.heap[k]? =w.heap[k]? :=h.1.block k hk (fun e=>hn (by injection e))
theorem But.below (h:But g w w') {b:Nat} (hb:b≤w.heap.size) (hg:b≤g):Below b w w':=
 ⟨h.1.os,h.1.tape,h.1.output,h.1.size,fun _ hk=>h.block (Nat.lt_of_lt_of_le hk hb) (Nat.ne_of_lt (Nat.lt_of_lt_of_le hk hg))⟩
theorem Cells.but {k:Nat} {t:TypeId} {cs:Array Value} (hc:Cells w k t cs) (h:But g w w') (hn:k≠g):Cells w' k t cs:=(h.block (Cells.lt hc) hn).trans hc
theorem But.set1 (w:World) (q i:Nat) (v:Value):But q w (w.setCell ⟨q,i,none⟩ v):=
 ⟨⟨rfl,rfl,rfl,by simp,fun b _ hn=>Below.heap_setCell _ _ _ _ (fun e=>hn (by rw[e]))⟩⟩
theorem But.of_below {q:Nat} (h:Below w.heap.size w w'):But q w w':=⟨⟨h.os,h.tape,h.output,h.size,fun b hb _=>h.block b hb⟩⟩
theorem But.set3 (w:World) (q:Nat) (x y v:Value):But q w (((w.setCell ⟨q,0,none⟩ x).setCell ⟨q,1,none⟩ y).setCell ⟨q,2,none⟩ v):=
 (But.set1 _ _ _ _).trans ((But.set1 _ _ _ _).trans (But.set1 _ _ _ _))
theorem But.set4 (w:World) (q:Nat) (x y z v:Value):But q w ((((w.setCell ⟨q,0,none⟩ x).setCell ⟨q,1,none⟩ y).setCell ⟨q,2,none⟩ z).setCell ⟨q,3,none⟩ v):=
 (But.set1 _ _ _ _).trans ((But.set1 _ _ _ _).trans ((But.set1 _ _ _ _).trans (But.set1 _ _ _ _)))
end
abbrev RowL (w:World) (A:Option Addr) (n c:Nat) (l:List Ex):Prop:=RowS cellsL 5 w A n c l
theorem RowS.drew {α:Type} {cells:α→List Value} {k:Nat} {w:World} {A:Option Addr} {n c:Nat} {xs:List α} (h:RowS cells k w A n c xs):RowS cells k w.drew A n c xs:=h.below (Below.refl _ w).drew
theorem RowS.alloc {α:Type} {cells:α→List Value} {k:Nat} {w:World} {A:Option Addr} {n c:Nat} {xs:List α} (h:RowS cells k w A n c xs) (o:Obj):RowS cells k (w.alloc o) A n c xs:=h.below ((Below.refl _ w).alloc (Nat.le_refl _) o)
theorem RowS.ext {w:World} {A:Option Addr} {n c:Nat} {l:List Ex} (h:RowL w A n c l) {i:Nat} {x:Ex} (hx:l[i]? =some x):
  ∃b o,A=some ⟨b,o,none⟩∧b<w.heap.size∧∀W:World,W.heap[b]? =w.heap[b]? →W.cell? ⟨b,o+i*5,none⟩=some (.int .i64 x.lba)∧W.cell? ⟨b,o+i*5+1,none⟩=some (.int .i64 x.n)∧W.cell? ⟨b,o+i*5+2,none⟩=some (.int .i64 x.ver)∧W.cell? ⟨b,o+i*5+3,none⟩=some (.int .i64 x.zone)∧W.cell? ⟨b,o+i*5+4,none⟩=some (.int .i64 x.off):=by
 obtain⟨b,o,e,hb,hc⟩:=h.elem hx
 exact⟨b,o,e,hb,fun W hW=>⟨hc W hW 0 _ rfl,hc W hW 1 _ rfl,hc W hW 2 _ rfl,hc W hW 3 _ rfl,hc W hW 4 _ rfl⟩⟩
theorem RowS.ext_at {w:World} {A:Option Addr} {n c:Nat} {l:List Ex} (h:RowL w A n c l) {i:Nat} {x:Ex} (hx:l[i]? =some x):
  ∃b o,A=some ⟨b,o,none⟩∧w.cell? ⟨b,o+i*5,none⟩=some (.int .i64 x.lba)∧w.cell? ⟨b,o+i*5+1,none⟩=some (.int .i64 x.n)∧w.cell? ⟨b,o+i*5+2,none⟩=some (.int .i64 x.ver)∧w.cell? ⟨b,o+i*5+3,none⟩=some (.int .i64 x.zone)∧w.cell? ⟨b,o+i*5+4,none⟩=some (.int .i64 x.off):=by
 obtain⟨b,o,e,-,hc⟩:=RowS.ext h hx
 exact⟨b,o,e,hc w rfl⟩
theorem ext_len (x:Ex):(cellsL x).length=5:=rfl
theorem ext_one (x:Ex):∀u∈cellsL x,u.oneCell'=true:=by
 intro u hu
 simp[cellsL] at hu
 rcases hu with rfl|rfl|rfl|rfl|rfl<;>rfl
theorem flat_len (xs:List Ex):(xs.flatMap cellsL).length=xs.length*5:=by
 induction xs with
 |nil=>rfl
 |cons x xs ih=>rw[List.flatMap_cons,List.length_append,ih,ext_len,List.length_cons];omega
theorem flat_one (xs:List Ex):∀u∈xs.flatMap cellsL,u.oneCell'=true:=by
 intro u hu
 obtain⟨x,_,hx⟩:=List.mem_flatMap.1 hu
 exact ext_one x u hx
theorem flat_get (xs:List Ex) (i j:Nat) (x:Ex) (v:Value) (hx:xs[i]? =some x) (hv:(cellsL x)[j]? =some v):(xs.flatMap cellsL)[i*5+j]? =some v:=by
 induction xs generalizing i with
 |nil=>simp at hx
 |cons y xs ih=>
  have hj:j<5:=(List.getElem?_eq_some_iff.1 hv).1
  rw[List.flatMap_cons]
  rcases i with _|i
  ·simp only[List.getElem?_cons_zero,Option.some.injEq] at hx
   subst hx
   rw[List.getElem?_append_left (by rw[ext_len];omega)]
   simpa using hv
  ·rw[List.getElem?_append_right (by rw[ext_len];omega),ext_len]
   rw[show(i+1)*5+j-5=i*5+j by omega]
   exact ih i (by simpa using hx)
theorem flat_inv (xs:List Ex) (k:Nat) (v:Value) (h:(xs.flatMap cellsL)[k]? =some v):∃x,xs[k/5]? =some x∧(cellsL x)[k%5]? =some v:=by
 have hl:k<xs.length*5:=by rw[←flat_len];exact(List.getElem?_eq_some_iff.1 h).1
 have hlt:k/5<xs.length:=by omega
 have hx:xs[k/5]? =some xs[k/5]:=List.getElem?_eq_getElem hlt
 have h4:k%5<(cellsL xs[k/5]).length:=by rw[ext_len];omega
 obtain⟨u,hu⟩:∃u,(cellsL xs[k/5])[k%5]? =some u:=⟨_,List.getElem?_eq_getElem h4⟩
 have:=flat_get xs (k/5) (k%5) _ u hx hu
 rw[show k/5*5+k%5=k by omega,h] at this
 injection this with this
 exact⟨_,hx,by rw[this];exact hu⟩
theorem RowS.flat {w:World} {A:Option Addr} {n c:Nat} {l:List Ex} (h:RowL w A n c l) {b o:Nat} (hA:A=some ⟨b,o,none⟩):∀j u,(l.flatMap cellsL)[j]? =some u→w.cell? ⟨b,o+j,none⟩=some u:=by
 intro j u hj
 obtain⟨x,hx,hu⟩:=flat_inv l j u hj
 have hn:j/5<l.length:=(List.getElem?_eq_some_iff.1 hx).1
 obtain⟨b',o',e,-,hc⟩:=h.at_ (by have:=h.len;omega)
 rw[hA] at e
 injection e with e
 injection e with e1 e2
 subst e1 e2
 have:=hc (j/5) x hx (j%5) u hu
 rwa [show o+j/5*5+j%5=o+j by omega] at this
def OwnsL (base:Nat) (w:World) (s:Value) (n:Nat) (xs:List Ex):Prop:=w.ownsRow base 60 5 s n (xs.flatMap cellsL)∧xs.length=n
section
variable {base:Nat} {w w':World} {s:Value} {n:Nat} {xs:List Ex}
theorem OwnsL.nil (base:Nat) (w:World):OwnsL base w (.slice none 0 0) 0 []:=⟨World.ownsRow_nil _ _ _ _,rfl⟩
theorem OwnsL.kept {row:Option Nat} (h:OwnsL base w s n xs) (hg:w.grownBy w' row) (hne:s.ownBlock=none∨s.ownBlock≠row):OwnsL base w' s n xs:=⟨World.ownsRow.kept h.1 hg hne,h.2⟩
theorem OwnsL.below (h:OwnsL base w s n xs) (hb:Below w.heap.size w w'):OwnsL base w' s n xs:=by
 refine⟨⟨h.1.1,?_⟩,h.2⟩
 rcases h.1.2 with hn|⟨q,cap,cur,e',hbg,hq,r⟩
 ·exact .inl hn
 ·exact .inr ⟨q,cap,cur,e',hbg,(hb.block _ (Array.getElem?_eq_some_iff.1 hq).1).trans hq,r⟩
theorem OwnsL.alloc (h:OwnsL base w s n xs) (o:Obj):OwnsL base (w.alloc o) s n xs:=h.below ((Below.refl _ w).alloc (Nat.le_refl _) o)
theorem OwnsL.drew (h:OwnsL base w s n xs):OwnsL base w.drew s n xs:=h.below (Below.refl _ w).drew
theorem OwnsL.mono {base':Nat} (h:OwnsL base w s n xs) (hb:base'≤base):OwnsL base' w s n xs:=by
 refine⟨⟨h.1.1,?_⟩,h.2⟩
 rcases h.1.2 with hn|⟨q,cap,cur,e',hbg,r⟩
 ·exact .inl hn
 ·exact .inr ⟨q,cap,cur,e',Nat.le_trans hb hbg,r⟩
theorem OwnsL.slice (h:OwnsL base w s n xs):∃A c,s= .slice A n c:=by
 rcases h.1.2 with⟨rfl,rfl⟩|⟨g,cap,cur,rfl,_⟩
 ·exact⟨none,0,rfl⟩
 ·exact⟨_,_,rfl⟩
theorem OwnsL.row {A:Option Addr} {c:Nat} (h:OwnsL base w (.slice A n c) n xs) (hn:n≤140737488351232):RowL w A n c xs:=by
 rcases h.1.2 with⟨e,h0⟩|⟨g,cap,cur,e,_,hg,hnc,hcm,hs,ht⟩
 ·subst h0
  injection e with e1 _ e3
  subst e1 e3
  exact⟨h.2,by omega,by omega,fun h=>absurd h (by omega)⟩
 ·injection e with e1 _ e3
  subst e1 e3
  refine⟨h.2,hnc,hn,fun _=>⟨g,0,rfl,(Array.getElem?_eq_some_iff.1 hg).1,fun i x hx j v hv=> ?_⟩⟩
  have:=World.ownsRow.cells (g:=g) (h.1:w.ownsRow base _ 5 _ n (xs.flatMap cellsL)) rfl (i*5+j) v (flat_get xs i j x v hx hv)
  simpa [Mem.add_none,Nat.add_assoc] using this
theorem OwnsL.lt (h:OwnsL base w s n xs):∀k,s.ownBlock=some k→base≤k∧k<w.heap.size:=World.ownsRow.lt h.1
end
theorem below_row {base:Nat} {w w':World} {s:Value} {n:Nat} {xs:List Ex} (h:OwnsL base w s n xs) (hg:w.grownBy w' s.ownBlock) (hb:base≤w.heap.size):Below base w w':=
 (Below.refl base w).grown hg hb (fun k hk=>(h.lt k hk).1)
theorem info_ext:(Tryz.prog.info? 60).map (fun i=>(i.zero,i.size,i.bytes))=some (some (.agg #[.int .i64 0,.int .i64 0,.int .i64 0,.int .i64 0,.int .i64 0]),5,40):=by kernel_rfl
theorem run_append_l (w:World) (base:Nat) (s:Value) (n:Nat) (l:List Ex) (hown:OwnsL base w s n l) (A:Option Addr) (m c:Nat) (l':List Ex) (hx:RowL w A m c l') (hbig:n+m≤1099511627776) (hbase:base≤w.heap.size):
  ∃s' w',(Builtin.append_ #[30,30] 30 #[s,.slice A m c]).run Tryz.prog w= .ok s' w'∧OwnsL base w' s' (n+m) (l++l')∧w.grownBy w' s.ownBlock∧(s'.ownBlock=s.ownBlock∨s'.ownBlock=some w.heap.size):=by
 obtain⟨i,hi,hz0,hz1,hz2⟩:=info_parts info_ext
 rcases A with _|ad
 ·have hm:m=0:=by
    rcases Nat.eq_zero_or_pos m with h0|h0
    ·exact h0
    ·obtain⟨b,o,e,_⟩:=hx.at_ h0
     cases e
  have hl:l'= []:=List.eq_nil_of_length_eq_zero (by rw[hx.len,hm])
  subst hm hl
  refine⟨s,w,?_,by simpa using hown,⟨rfl,rfl,rfl,Nat.le_refl _,fun _ _ _=>rfl⟩,.inl rfl⟩
  rcases hown.1.2 with⟨rfl,rfl⟩|⟨b,cap,cur,rfl,_,_,hnc,_⟩
  ·simp[Builtin.append_,run_underlying Tryz.underlying30,sizeOf,typeInfo,hi,Builtin.lenOf,Builtin.firstCells]
  ·simp[Builtin.append_,run_underlying Tryz.underlying30,sizeOf,typeInfo,hi,Builtin.lenOf,Builtin.firstCells,hnc,storeCells]
 ·have hcells:∀j q,(l'.flatMap cellsL)[j]? =some q→w.cell? (ad.add j)=some q:=by
    intro j q hq
    have hlt:j<(l'.flatMap cellsL).length:=(List.getElem?_eq_some_iff.1 hq).1
    rw[flat_len] at hlt
    obtain⟨b,o,e,_⟩:=hx.at_ (by have:=hx.len;omega)
    have:=RowS.flat hx e j q hq
    injection e with e
    subst e
    rw[Mem.add_none]
    exact this
  obtain⟨s',w',hrun,h2,h3,-,h5⟩:=run_append_own_at (P:=Tryz.prog) w base 30 30 60 i _ 5 40 Tryz.underlying30 hi hz0 hz1 hz2 rfl (by omega) s n _ hown.1 ad m c (l'.flatMap cellsL) (by rw[flat_len,hx.len]) hcells (flat_one l') (by unfold maxLen;omega) (by omega) hbase
  exact⟨s',w',hrun,⟨by rw[List.flatMap_append];exact h2,by rw[List.length_append,hown.2,hx.len]⟩,h3,h5⟩
theorem wpList_append_l {w:World} {ops:Array Oper} {rest:List Oper} {o:Oper} {a:Act} {Q:Exit→Act→World→Prop} (hgd:o.guard=none) (s x:Operand)
  (ho:o.op= .call {callee:= .builtin .append,args:= #[s,x],argTypes:= #[30,30]}) (hty:o.type=30)
  (base:Nat) (xv:Value) (n:Nat) (l:List Ex) (hs:a.eval s=xv) (hown:OwnsL base w xv n l) (A:Option Addr) (m c:Nat) (l':List Ex) (hx:a.eval x= .slice A m c) (h:RowL w A m c l')
  (hbig:n+m≤1099511627776) (hbase:base≤w.heap.size)
  (hk:∀A' c' w',OwnsL base w' (.slice A' (n+m) c') (n+m) (l++l')→w.grownBy w' xv.ownBlock→((Value.slice A' (n+m) c').ownBlock=xv.ownBlock∨(Value.slice A' (n+m) c').ownBlock=some w.heap.size)→wpList Tryz.prog ops Q rest (a.put o.dst (.slice A' (n+m) c')) w'):
  wpList Tryz.prog ops Q (o::rest) a w:=by
 refine wpList_plain hgd fun K hK=> ?_
 obtain⟨s',w',hrun,h2,h3,h4⟩:=run_append_l w base xv n l hown A m c l' h hbig hbase
 obtain⟨A',c',rfl⟩:=h2.slice
 unfold Oper.wp execOp
 simp only[ho,hty,resolve,invoke,builtin,Sem.run_bind,Sem.run_pure,Result.andThen_ok,List.map_toArray,List.map_cons,List.map_nil,hs,hx,hrun]
 exact hK _ _ (hk A' c' w' h2 h3 h4)
theorem RowS.one {w:World} {q:Nat} {x:Ex} (h:LBox w q x):RowL w (some ⟨q,0,none⟩) 1 1 [x]:=by
 refine⟨rfl,by omega,by omega,fun _=>⟨_,_,rfl,Cells.lt h,fun i y hy j u hu=> ?_⟩⟩
 have hi:i=0:=by have:=(List.getElem?_eq_some_iff.1 hy).1;simpa using this
 subst hi
 simp at hy
 subst hy
 rw[show 0+0*5+j=j by omega,Cells.cell h]
 simpa [cellsL] using hu
theorem results_c1 {P:Program} {fn:Func} {p u:Tmp} {ty:TypeId} (h:fn.results= #[.cell p ty,.tmp u]) (tmps:Array Value) (w:World) (g:Nat) (t:TypeId) (cs:Array Value) (fr:Nat × Nat) (d:TypeDesc)
  (hp:tmps.getD p undef= .pointer (some ⟨g,0,none⟩)) (hg:w.heap[g]? =some (.cells cs t fr))
  (hu:P.underlying ty=some d) (hd:(match d with| .struct _| .array _ _=>true|_=>false)=true) (hi:(P.info? ty).map (·.size)=some cs.size):
  (results fn tmps).run P w= .ok (.tuple #[.agg cs,tmps.getD u undef]) w:=by
 have hp':tmps[p]?.getD undef= .pointer (some ⟨g,0,none⟩):=by simpa using hp
 simp[results,h,hp',asAddr,Result.andThen,run_loadVar_row w g t ty cs fr d hg hu hd hi]
theorem results_c0 {P:Program} {fn:Func} {p:Tmp} {ty:TypeId} (h:fn.results= #[.cell p ty]) (tmps:Array Value) (w:World) (g:Nat) (t:TypeId) (cs:Array Value) (fr:Nat × Nat) (d:TypeDesc)
  (hp:tmps.getD p undef= .pointer (some ⟨g,0,none⟩)) (hg:w.heap[g]? =some (.cells cs t fr))
  (hu:P.underlying ty=some d) (hd:(match d with| .struct _| .array _ _=>true|_=>false)=true) (hi:(P.info? ty).map (·.size)=some cs.size):
  (results fn tmps).run P w= .ok (.agg cs) w:=by
 have hp':tmps[p]?.getD undef= .pointer (some ⟨g,0,none⟩):=by simpa using hp
 simp[results,h,hp',asAddr,run_loadVar_row w g t ty cs fr d hg hu hd hi]
theorem results_c2 {P:Program} {fn:Func} {p u v:Tmp} {ty:TypeId} (h:fn.results= #[.cell p ty,.tmp u,.tmp v]) (tmps:Array Value) (w:World) (g:Nat) (t:TypeId) (cs:Array Value) (fr:Nat × Nat) (d:TypeDesc)
  (hp:tmps.getD p undef= .pointer (some ⟨g,0,none⟩)) (hg:w.heap[g]? =some (.cells cs t fr))
  (hu:P.underlying ty=some d) (hd:(match d with| .struct _| .array _ _=>true|_=>false)=true) (hi:(P.info? ty).map (·.size)=some cs.size):
  (results fn tmps).run P w= .ok (.tuple #[.agg cs,tmps.getD u undef,tmps.getD v undef]) w:=by
 have hp':tmps[p]?.getD undef= .pointer (some ⟨g,0,none⟩):=by simpa using hp
 simp[results,h,hp',asAddr,Result.andThen,run_loadVar_row w g t ty cs fr d hg hu hd hi]
end Ext
end
section
open Go.RowKit Mem
namespace Ext
theorem run_tailL (A:Option Addr) (n c k:Nat) (hk:k≤n) (w:World):(Instr.slice 30 (.slice A n c) (some (.int .i64 (k:Int))) none none).run Tryz.prog w= .ok (.slice (if c=k then A else A.map (·.add (k*5))) (n-k) (c-k)) w:=by
 obtain⟨i,hi,hz0,hz1,hz2⟩:=info_parts info_ext
 have h1:(k:Int)≤(n:Int):=by omega
 have h0:(0:Int)≤(k:Int):=by omega
 simp[Instr.slice,Instr.sliceBounds,run_sliceBound,h0,h1,run_underlying Tryz.underlying30,sizeOf,typeInfo,hi,hz1]
theorem run_headL (A:Option Addr) (n c k:Nat) (h:k≤c) (w:World):(Instr.slice 30 (.slice A n c) none (some (.int .i64 (k:Int))) none).run Tryz.prog w= .ok (.slice A k c) w:=by
 obtain⟨i,hi,hz0,hz1,hz2⟩:=info_parts info_ext
 have e:(if c=0 then A else A.map (·.add 0))=A:=by
  split
  ·rfl
  ·cases A with
   |none=>rfl
   |some x=>simp[Addr.add]
 have h1:(k:Int)≤(c:Int):=by omega
 have h0:(0:Int)≤(k:Int):=by omega
 simp[Instr.slice,Instr.sliceBounds,run_sliceBound,h0,h1,run_underlying Tryz.underlying30,sizeOf,typeInfo,hi,e]
structure Piece where
 A:Option Addr
 n:Nat
 c:Nat
 l:List Ex
def Piece.val (p:Piece):Value:= .slice p.A p.n p.c
theorem RowS.head {w:World} {A:Option Addr} {n c:Nat} {l:List Ex} (h:RowL w A n c l) {k:Nat} (hk:k≤n):RowL w A k c (l.take k):=by
 refine⟨by rw[List.length_take,h.len];omega,by have:=h.cap;omega,by have:=h.big;omega,fun h0=> ?_⟩
 obtain⟨b,o,e,hb,hc⟩:=h.at_ (by omega)
 refine⟨b,o,e,hb,fun i x hx j u hu=> ?_⟩
 rw[List.getElem?_take] at hx
 split at hx
 ·exact hc i x hx j u hu
 ·cases hx
def tailA (A:Option Addr) (c k:Nat):Option Addr:=if c=k then A else A.map (·.add (k*5))
theorem RowS.tail {w:World} {A:Option Addr} {n c:Nat} {l:List Ex} (h:RowL w A n c l) {k:Nat} (hk:k≤n):RowL w (tailA A c k) (n-k) (c-k) (l.drop k):=by
 refine⟨by rw[List.length_drop,h.len],by have:=h.cap;omega,by have:=h.big;omega,fun h0=> ?_⟩
 obtain⟨b,o,e,hb,hc⟩:=h.at_ (by omega)
 refine⟨b,o+k*5,?_,hb,fun i x hx j u hu=> ?_⟩
 ·unfold tailA
  rw[if_neg (by have:=h.cap;omega),e]
  simp[Mem.add_none]
 ·rw[List.getElem?_drop] at hx
  have:=hc (k+i) x hx j u hu
  rwa [show o+(k+i)*5+j=o+k*5+i*5+j by omega] at this
theorem run_midL (A:Option Addr) (n c k j:Nat) (hk:k≤j) (hj:j≤c) (w:World):(Instr.slice 30 (.slice A n c) (some (.int .i64 (k:Int))) (some (.int .i64 (j:Int))) none).run Tryz.prog w= .ok (.slice (tailA A c k) (j-k) (c-k)) w:=by
 obtain⟨i,hi,hz0,hz1,hz2⟩:=info_parts info_ext
 have h1:(k:Int)≤(j:Int):=by omega
 have h0:(0:Int)≤(k:Int):=by omega
 have h2:(j:Int)≤(c:Int):=by omega
 have h3:(0:Int)≤(j:Int):=by omega
 simp[Instr.slice,Instr.sliceBounds,run_sliceBound,h0,h1,h2,h3,run_underlying Tryz.underlying30,sizeOf,typeInfo,hi,hz1,tailA]
theorem OwnsL.put {base:Nat} {w:World} {A:Option Addr} {n c:Nat} {l:List Ex} (h:OwnsL base w (.slice A n c) n l) {k:Nat} {x:Ex} (hx:l[k]? =some x):
  ∃g,A=some ⟨g,0,none⟩∧base≤g∧g<w.heap.size∧(w.cell? ⟨g,k*5,none⟩=some (.int .i64 x.lba)∧w.cell? ⟨g,k*5+1,none⟩=some (.int .i64 x.n)∧w.cell? ⟨g,k*5+2,none⟩=some (.int .i64 x.ver)∧w.cell? ⟨g,k*5+3,none⟩=some (.int .i64 x.zone)∧w.cell? ⟨g,k*5+4,none⟩=some (.int .i64 x.off))∧(∀i,w.frozen? ⟨g,i,none⟩=false)∧
   ∀(j:Nat) (v:Value) (y:Ex),j<5→cellsL y=(cellsL x).set j v→OwnsL base (w.setCell ⟨g,k*5+j,none⟩ v) (.slice A n c) n (l.set k y):=by
 have hk:=(List.getElem?_eq_some_iff.1 hx).1
 rcases h.1.2 with⟨-,h1⟩|⟨g,cap,cur,e,hb,hg,hnc,hcm,hs,ht⟩
 ·have:=h.2;omega
 ·injection e with e1 _ e3
  subst e1 e3
  have hcell:∀j u,(cellsL x)[j]? =some u→w.cell? ⟨g,k*5+j,none⟩=some u:=fun j u hu=>by
   have:=World.ownsRow.cells (g:=g) h.1 rfl (k*5+j) u (flat_get l k j x u hx hu)
   rwa [Mem.add_none,Nat.zero_add] at this
  refine⟨g,rfl,hb,(Array.getElem?_eq_some_iff.1 hg).1,⟨hcell 0 _ rfl,hcell 1 _ rfl,hcell 2 _ rfl,hcell 3 _ rfl,hcell 4 _ rfl⟩,fun i=>frozen_of hg i,fun j v y hj hy=>⟨?_,by rw[List.length_set];exact h.2⟩⟩
  have hst:=(World.ownsRow.stored h.1 (k*5+j) v).1
  have he:(l.flatMap cellsL).set (k*5+j) v=(l.set k y).flatMap cellsL:=by
   apply List.ext_getElem?
   intro i
   rw[List.getElem?_set,flat_len]
   have hl4:((l.set k y).flatMap cellsL).length=l.length*5:=by rw[flat_len,List.length_set]
   by_cases hi:k*5+j=i
   ·subst hi
    rw[if_pos rfl,if_pos (by omega)]
    exact(flat_get _ k j y _ (by simp[hk]) (by rw[hy,List.getElem?_set,if_pos rfl,if_pos (by rw[ext_len];exact hj)])).symm
   ·rw[if_neg hi]
    rcases Nat.lt_or_ge i (l.length*5) with h1|h1
    ·obtain⟨u,hu⟩:∃u,(l.flatMap cellsL)[i]? =some u:=⟨_,List.getElem?_eq_getElem (by rw[flat_len];exact h1)⟩
     obtain⟨z,hz,hzu⟩:=flat_inv l i u hu
     rw[hu]
     by_cases hik:k=i/5
     ·subst hik
      have hxz:=hx.symm.trans hz
      injection hxz with hxz
      subst hxz
      have:=flat_get (l.set (i/5) y) (i/5) (i%5) y u (by simp[hk]) (by
       rw[hy,List.getElem?_set,if_neg (by omega)];exact hzu)
      rw[show i/5*5+i%5=i by omega] at this
      exact this.symm
     ·have:=flat_get (l.set k y) (i/5) (i%5) z u (by rw[List.getElem?_set,if_neg hik];exact hz) hzu
      rw[show i/5*5+i%5=i by omega] at this
      exact this.symm
    ·rw[List.getElem?_eq_none (by rw[flat_len];exact h1),List.getElem?_eq_none (by rw[hl4];exact h1)]
  rw[←he]
  exact hst
theorem set_at {l:List Ex} {k:Nat} (h:k<l.length) (y:Ex):(l.set k y)[k]? =some y:=by simp[h]
theorem OwnsL.put_ {base g:Nat} {w:World} {n c:Nat} {l:List Ex} (h:OwnsL base w (.slice (some ⟨g,0,none⟩) n c) n l) {k:Nat} {x:Ex} (hx:l[k]? =some x) (j:Nat) (v:Value) (y:Ex) (hj:j<5) (hy:cellsL y=(cellsL x).set j v):
  OwnsL base (w.setCell ⟨g,k*5+j,none⟩ v) (.slice (some ⟨g,0,none⟩) n c) n (l.set k y):=by
 obtain⟨g',hA,-,-,-,-,h0⟩:=OwnsL.put h hx
 injection hA with hA
 injection hA with hA
 subst hA
 exact h0 j v y hj hy
theorem belowk {B g:Nat} {a w:World} (h:Below B a w) (hg:B≤g) (i:Nat) (v:Value):Below B a (w.setCell ⟨g,i,none⟩ v):=h.setCell (p:=⟨g,i,none⟩) hg v
theorem OwnsL.built {base:Nat} {w:World} (x:Ex) (hb:base≤w.heap.size):OwnsL base (w.alloc (.cells #[.int .i64 x.lba,.int .i64 x.n,.int .i64 x.ver,.int .i64 x.zone,.int .i64 x.off] 60)) (.slice (some ⟨w.heap.size,0,none⟩) 1 1) 1 [x]:=
 ⟨⟨by simp[cellsL],.inr ⟨w.heap.size,1,_,rfl,hb,heap_alloc_new w _,Nat.le_refl _,by unfold maxLen;omega,rfl,by simp[cellsL]⟩⟩,rfl⟩
theorem OwnsL.cells_at {base g:Nat} {w:World} {n c:Nat} {l:List Ex} (h:OwnsL base w (.slice (some ⟨g,0,none⟩) n c) n l) {k:Nat} {x:Ex} (hx:l[k]? =some x):
  w.cell? ⟨g,k*5,none⟩=some (.int .i64 x.lba)∧w.cell? ⟨g,k*5+1,none⟩=some (.int .i64 x.n)∧w.cell? ⟨g,k*5+2,none⟩=some (.int .i64 x.ver)∧w.cell? ⟨g,k*5+3,none⟩=some (.int .i64 x.zone)∧w.cell? ⟨g,k*5+4,none⟩=some (.int .i64 x.off):=by
 obtain⟨g',hA,-,-,h0,-⟩:=OwnsL.put h hx
 injection hA with hA
 injection hA with hA
 subst hA
 exact h0
theorem OwnsL.frozen {base g:Nat} {w:World} {n c:Nat} {l:List Ex} (h:OwnsL base w (.slice (some ⟨g,0,none⟩) n c) n l) (i:Nat):w.frozen? ⟨g,i,none⟩=false:=by
 rcases h.1.2 with⟨e,-⟩|⟨g',cap,cur,e,hb,hg,-⟩
 ·cases e
 ·injection e with e1
  injection e1 with e1
  injection e1 with e1
  subst e1
  exact frozen_of hg i
theorem OwnsL.frozen5 {base g:Nat} {w:World} {n c:Nat} {l:List Ex} (h:OwnsL base w (.slice (some ⟨g,0,none⟩) n c) n l) (k:Nat):
  w.frozen? ⟨g,k*5,none⟩=false∧w.frozen? ⟨g,k*5+1,none⟩=false∧w.frozen? ⟨g,k*5+2,none⟩=false∧w.frozen? ⟨g,k*5+3,none⟩=false∧w.frozen? ⟨g,k*5+4,none⟩=false:=
 ⟨OwnsL.frozen h _,OwnsL.frozen h _,OwnsL.frozen h _,OwnsL.frozen h _,OwnsL.frozen h _⟩
theorem OwnsL.put5 {base g:Nat} {w:World} {n c:Nat} {l:List Ex} (h:OwnsL base w (.slice (some ⟨g,0,none⟩) n c) n l) {k:Nat} {x:Ex} (hx:l[k]? =some x) (y:Ex):
  OwnsL base (((((w.setCell ⟨g,k*5,none⟩ (.int .i64 y.lba)).setCell ⟨g,k*5+1,none⟩ (.int .i64 y.n)).setCell ⟨g,k*5+2,none⟩ (.int .i64 y.ver)).setCell ⟨g,k*5+3,none⟩ (.int .i64 y.zone)).setCell ⟨g,k*5+4,none⟩ (.int .i64 y.off)) (.slice (some ⟨g,0,none⟩) n c) n (l.set k y):=by
 have hk:=(List.getElem?_eq_some_iff.1 hx).1
 have e0:=OwnsL.put_ h hx 0 (.int .i64 y.lba) ⟨y.lba,x.n,x.ver,x.zone,x.off⟩ (by omega) rfl
 rw[Nat.add_zero] at e0
 have e1:=OwnsL.put_ e0 (set_at hk _) 1 (.int .i64 y.n) ⟨y.lba,y.n,x.ver,x.zone,x.off⟩ (by omega) rfl
 rw[List.set_set] at e1
 have e2:=OwnsL.put_ e1 (set_at hk _) 2 (.int .i64 y.ver) ⟨y.lba,y.n,y.ver,x.zone,x.off⟩ (by omega) rfl
 rw[List.set_set] at e2
 have e3:=OwnsL.put_ e2 (set_at hk _) 3 (.int .i64 y.zone) ⟨y.lba,y.n,y.ver,y.zone,x.off⟩ (by omega) rfl
 rw[List.set_set] at e3
 have e4:=OwnsL.put_ e3 (set_at hk _) 4 (.int .i64 y.off) y (by omega) rfl
 rw[List.set_set] at e4
 exact e4
theorem below5 {B g:Nat} {a w:World} (h:Below B a w) (hg:B≤g) (i0 i1 i2 i3 i4:Nat) (x y z v u:Value):Below B a (((((w.setCell ⟨g,i0,none⟩ x).setCell ⟨g,i1,none⟩ y).setCell ⟨g,i2,none⟩ z).setCell ⟨g,i3,none⟩ v).setCell ⟨g,i4,none⟩ u):=
 belowk (belowk (belowk (belowk (belowk h hg i0 x) hg i1 y) hg i2 z) hg i3 v) hg i4 u
theorem Cells.other5 {w:World} {g g':Nat} {t:TypeId} {cs:Array Value} (h:Cells w g t cs) (hg:g'≠g) (i0 i1 i2 i3 i4:Nat) (x y z v u:Value):Cells (((((w.setCell ⟨g',i0,none⟩ x).setCell ⟨g',i1,none⟩ y).setCell ⟨g',i2,none⟩ z).setCell ⟨g',i3,none⟩ v).setCell ⟨g',i4,none⟩ u) g t cs:=
 Cells.set_other (Cells.set_other (Cells.set_other (Cells.set_other (Cells.set_other h hg i0 x) hg i1 y) hg i2 z) hg i3 v) hg i4 u
theorem run_max2 (ts:Array TypeId) (t:TypeId) (x y:Int) (w:World):(Builtin.max_ ts t #[.int .i64 x,.int .i64 y]).run Tryz.prog w= .ok (.int .i64 (max x y)) w:=by
 have e:(Builtin.max_ ts t #[.int .i64 x,.int .i64 y]).run Tryz.prog w= .ok (.int .i64 (if y>x then y else x)) w:=by
  simp[Builtin.max_,Builtin.max2,List.foldlM]
 rw[e]
 congr 2
 split<;>omega
theorem run_min2 (ts:Array TypeId) (t:TypeId) (x y:Int) (w:World):(Builtin.min_ ts t #[.int .i64 x,.int .i64 y]).run Tryz.prog w= .ok (.int .i64 (min x y)) w:=by
 have e:(Builtin.min_ ts t #[.int .i64 x,.int .i64 y]).run Tryz.prog w= .ok (.int .i64 (if y<x then y else x)) w:=by
  simp[Builtin.min_,Builtin.min2,List.foldlM]
 rw[e]
 congr 2
 split<;>omega
theorem Cells.grown {w w':World} {g:Nat} {t:TypeId} {cs:Array Value} {row:Option Nat} (h:Cells w g t cs) (hg:w.grownBy w' row) (hne:row≠some g):Cells w' g t cs:=(hg.block g (Cells.lt h) (fun e=>hne e.symm)).trans h
theorem But.set5 (w:World) (g i0 i1 i2 i3 i4:Nat) (x y z v u:Value):But g w (((((w.setCell ⟨g,i0,none⟩ x).setCell ⟨g,i1,none⟩ y).setCell ⟨g,i2,none⟩ z).setCell ⟨g,i3,none⟩ v).setCell ⟨g,i4,none⟩ u):=
 (But.set1 _ _ _ _).trans ((But.set1 _ _ _ _).trans ((But.set1 _ _ _ _).trans ((But.set1 _ _ _ _).trans (But.set1 _ _ _ _))))
theorem wp_append_l1 {w:World} {o:Oper} {a:Act} {Q:Exit→Act→World→Prop} {K:Act→World→Prop} (s x:Operand)
  (ho:o.op= .call {callee:= .builtin .append,args:= #[s,x],argTypes:= #[30,30]}) (hty:o.type=30)
  (base:Nat) (sv:Value) (n:Nat) (l:List Ex) (hs:a.eval s=sv) (hown:OwnsL base w sv n l) (A:Option Addr) (m c:Nat) (l':List Ex) (hx:a.eval x= .slice A m c) (h:RowL w A m c l')
  (hbig:n+m≤1099511627776) (hbase:base≤w.heap.size)
  (hk:∀A' c' w',OwnsL base w' (.slice A' (n+m) c') (n+m) (l++l')→w.grownBy w' sv.ownBlock→((Value.slice A' (n+m) c').ownBlock=sv.ownBlock∨(Value.slice A' (n+m) c').ownBlock=some w.heap.size)→K (a.put o.dst (.slice A' (n+m) c')) w'):
  Oper.wp Tryz.prog o a w K Q:=by
 obtain⟨s',w',hrun,h2,h3,h4⟩:=run_append_l w base sv n l hown A m c l' h hbig hbase
 obtain⟨A',c',rfl⟩:=h2.slice
 unfold Oper.wp execOp
 simp only[ho,hty,resolve,invoke,builtin,Sem.run_bind,Sem.run_pure,Result.andThen_ok,List.map_toArray,List.map_cons,List.map_nil,hs,hx,hrun]
 exact hk A' c' w' h2 h3 h4
theorem OwnsL.low {base:Nat} {w w':World} {s:Value} {n:Nat} {xs:List Ex} (h:OwnsL base w s n xs) (hb:Below w.heap.size w w'):OwnsL base w' s n xs:=OwnsL.below h hb
def tailE (A:Option Addr) (c k:Nat):Option Addr:=tailA A c k
theorem mid_row {w:World} {A:Option Addr} {n c:Nat} {l:List Ex} (h:RowL w A n c l) {i j:Nat} (hi:i≤j) (hj:j≤n):RowL w (tailA A c i) (j-i) (c-i) ((l.drop i).take (j-i)):=
 RowS.head (RowS.tail h (show i≤n by omega)) (by omega)
end Ext
end
section
open Go.RowKit Mem
namespace Ext
theorem ext_guard:Tryz.prog.eqGuardType Tryz.prog.depth 60=false:=by kernel_rfl
theorem ext_equal (x:Ex) (w:World):(Op.equalIn 10000 60 (xv x) (xv x)).run Tryz.prog w= .ok true w:=by
 have u3:=Tryz.underlying3
 have a3:=Tryz.isAgg3
 have z3:=Tryz.sizeOf3
 have hS:Tryz.prog.underlying 60=some (.struct (Tryz.prog.fieldsOf 60)):=by kernel_rfl
 have hp:Tryz.prog.stoodInHeld 60=false:=by kernel_rfl
 rw[show(10000:Nat)=9999+1 from rfl,run_equalIn_agg w 9999 60 _ _ hS hp]
 simp only[Program.fieldsOf,Tryz.underlying60]
 go_simp
 try simp
theorem ext_neq (x:Ex) (w:World):(binOp .neq 60 (xv x) (xv x)).run Tryz.prog w= .ok (.bool false) w:=by
 rw[run_neq_struct,ext_equal];rfl
end Ext
end
section
open Go.RowKit Mem
namespace Ext
theorem wrap_small {z:Int} (h1: -9000000000000000000≤z) (h2:z≤9000000000000000000):IntKind.i64.wrap z=z:=by rw[IntKind.wrap_i64];omega
theorem end_any (x:Ex) (hm:MayX x) (w:World):Calls Tryz.prog 67 #[xv x] w fun e w'=>e= .returned (.int .i64 x.en)∧Below w.heap.size w w':=by
 have hw:IntKind.i64.wrap (x.lba+x.n)=x.lba+x.n:=by obtain⟨h1,h2,h3,-⟩:=hm;exact wrap_small (by omega) (by omega)
 have HE:Hid (x.en=x.lba+x.n):=rfl
 clear hm
 have A1:Hid (Below w.heap.size w (w.alloc (.cells #[.int .i64 x.lba,.int .i64 x.n,.int .i64 x.ver,.int .i64 x.zone,.int .i64 x.off] 60))):=(Below.refl _ w).alloc (Nat.le_refl _) _
 have B1:Hid (LBox (w.alloc (.cells #[.int .i64 x.lba,.int .i64 x.n,.int .i64 x.ver,.int .i64 x.zone,.int .i64 x.off] 60)) w.heap.size x):=Cells.new _ _ _
 obtain⟨n0,n1,n2,n3,n4⟩:=LBox.cells B1.out
 go_enter Tryz.func67,Tryz.ntmps67
 go_wp2_with fail
 go_ret
 exact⟨by rw[HE.out];rfl,A1.out⟩
theorem blocks_any (a n:Int) (hn:n≤9223372036854775807) (w:World):Calls Tryz.prog 81 #[.int .i64 a,.int .i64 n] w fun e w'=>e= .returned (.bool (rangeB a n))∧w'=w:=by
 unfold rangeB
 rcases e1:decide (0≤a)
 ·go_enter Tryz.func81,Tryz.ntmps81
  go_wp2
  go_ret
  exact⟨rfl,rfl⟩
 ·rcases e2:decide (1≤n)
  ·go_enter Tryz.func81,Tryz.ntmps81
   go_wp2
   go_ret
   exact⟨rfl,rfl⟩
  ·have hw:IntKind.i64.wrap (1099511627776-n)=1099511627776-n:=by have:=of_decide_eq_true e2;rw[IntKind.wrap_i64];omega
   rcases e3:decide (a≤1099511627776-n)
   ·go_enter Tryz.func81,Tryz.ntmps81
    go_wp2
    go_ret
    exact⟨rfl,rfl⟩
   ·go_enter Tryz.func81,Tryz.ntmps81
    go_wp2
    go_ret
    exact⟨rfl,rfl⟩
theorem mayBe_any (x:Ex) (hm:MayX x) (w:World):Calls Tryz.prog 66 #[xv x] w fun e w'=>e= .returned (.bool true)∧Below w.heap.size w w':=by
 have HB:=fun w=>Lib.hid (blocks_any x.lba x.n (by obtain⟨h1,h2,h3,-⟩:=hm;omega) w)
 rw[rangeB_iff.2 ⟨hm.1,hm.2.1,hm.2.2.1⟩] at HB
 have f1:decide (x.ver<0)=false:=decide_eq_false (by have:=hm.2.2.2.1;omega)
 have A1:Hid (Below w.heap.size w (w.alloc (.cells #[.int .i64 x.lba,.int .i64 x.n,.int .i64 x.ver,.int .i64 x.zone,.int .i64 x.off] 60))):=(Below.refl _ w).alloc (Nat.le_refl _) _
 have B1:Hid (LBox (w.alloc (.cells #[.int .i64 x.lba,.int .i64 x.n,.int .i64 x.ver,.int .i64 x.zone,.int .i64 x.off] 60)) w.heap.size x):=Cells.new _ _ _
 obtain⟨n0,n1,n2,n3,n4⟩:=LBox.cells B1.out
 generalize HW:w.alloc (.cells #[.int .i64 x.lba,.int .i64 x.n,.int .i64 x.ver,.int .i64 x.zone,.int .i64 x.off] 60)=w1 at*
 rcases hz:(x.zone== -1)
 ·have hz':¬x.zone= -1:=by simpa using hz
  obtain⟨g1,g2,g3,g4⟩:=hm.2.2.2.2.resolve_left (fun h=>hz' h.1)
  have f2:decide (0≤x.zone)=true:=decide_eq_true g1
  have f3:decide (x.zone≤1099511627776)=true:=decide_eq_true g2
  have f4:decide (0≤x.off)=true:=decide_eq_true g3
  have k1:=hm.2.1
  have k2:=hm.1
  have k3:=hm.2.2.1
  have hw1:IntKind.i64.wrap (x.n*16)=x.n*16:=wrap_small (by omega) (by omega)
  have hw2:IntKind.i64.wrap (1125899906842624-x.n*16)=1125899906842624-x.n*16:=wrap_small (by omega) (by omega)
  have f5:decide (x.off≤1125899906842624-x.n*16)=true:=decide_eq_true (by omega)
  clear hm g1 g2 g3 g4 k1 k2 k3 hz'
  subst HW
  go_enter Tryz.func66,Tryz.ntmps66
  go_wp2_with (go_at_call 81;refine(HB _).out.mono ?_;rintro e w2 ⟨rfl,rfl⟩)
  go_ret
  exact⟨rfl,A1.out⟩
 ·have hz':x.zone= -1:=by simpa using hz
  have f2:(x.off==0)=true:=by have:=may_zone hm hz';simpa using this
  clear hm hz'
  subst HW
  go_enter Tryz.func66,Tryz.ntmps66
  go_wp2_with (go_at_call 81;refine(HB _).out.mono ?_;rintro e w2 ⟨rfl,rfl⟩)
  go_ret
  exact⟨by rfl,A1.out⟩
theorem two_boxes (w:World) (x y:Ex):Hid (Below w.heap.size w ((w.alloc (.cells #[.int .i64 x.lba,.int .i64 x.n,.int .i64 x.ver,.int .i64 x.zone,.int .i64 x.off] 60)).alloc (.cells #[.int .i64 y.lba,.int .i64 y.n,.int .i64 y.ver,.int .i64 y.zone,.int .i64 y.off] 60)))∧Hid (LBox ((w.alloc (.cells #[.int .i64 x.lba,.int .i64 x.n,.int .i64 x.ver,.int .i64 x.zone,.int .i64 x.off] 60)).alloc (.cells #[.int .i64 y.lba,.int .i64 y.n,.int .i64 y.ver,.int .i64 y.zone,.int .i64 y.off] 60)) w.heap.size x)∧Hid (LBox ((w.alloc (.cells #[.int .i64 x.lba,.int .i64 x.n,.int .i64 x.ver,.int .i64 x.zone,.int .i64 x.off] 60)).alloc (.cells #[.int .i64 y.lba,.int .i64 y.n,.int .i64 y.ver,.int .i64 y.zone,.int .i64 y.off] 60)) (w.heap.size+1) y):=by
 have A1:Below w.heap.size w (w.alloc (.cells #[.int .i64 x.lba,.int .i64 x.n,.int .i64 x.ver,.int .i64 x.zone,.int .i64 x.off] 60)):=(Below.refl _ w).alloc (Nat.le_refl _) _
 refine⟨A1.alloc A1.size _,Cells.alloc (Cells.new _ _ _) _,?_⟩
 have:=Cells.new (w.alloc (.cells #[.int .i64 x.lba,.int .i64 x.n,.int .i64 x.ver,.int .i64 x.zone,.int .i64 x.off] 60)) #[.int .i64 y.lba,.int .i64 y.n,.int .i64 y.ver,.int .i64 y.zone,.int .i64 y.off] 60
 show LBox _ _ _
 simpa using this
theorem goOn_any (x y:Ex) (hx:MayX x) (_hy:MayX y) (w:World):Calls Tryz.prog 155 #[xv x,xv y] w fun e w'=>e= .returned (.bool (goB x y))∧Below w.heap.size w w':=by
 have HE:=fun w=>Lib.hid (end_any x hx w)
 have HG:Hid (goB x y=((!(y.lba !=x.en)&&(!(y.ver !=x.ver)&& !(y.zone !=x.zone)))&&(x.zone== -1||y.off==x.off+x.n*16))):=by
  show _=_
  unfold goB
  simp only[bne,Bool.not_not]
 have hw1:IntKind.i64.wrap (x.n*16)=x.n*16:=by obtain⟨h1,h2,h3,h4,-⟩:=hx;exact wrap_small (by omega) (by omega)
 have hw2:IntKind.i64.wrap (x.off+x.n*16)=x.off+x.n*16:=by obtain⟨h1,h2,h3,h4,h5⟩:=hx;rcases h5 with h5|h5<;>exact wrap_small (by omega) (by omega)
 clear hx
 generalize goB x y=r at*
 obtain⟨L1,B1,B2⟩:=two_boxes w x y
 go_enter Tryz.func155,Tryz.ntmps155
 go_upto_region 1 with fail
 generalize(w.alloc (.cells #[.int .i64 x.lba,.int .i64 x.n,.int .i64 x.ver,.int .i64 x.zone,.int .i64 x.off] 60)).alloc (.cells #[.int .i64 y.lba,.int .i64 y.n,.int .i64 y.ver,.int .i64 y.zone,.int .i64 y.off] 60)=w1 at*
 have HS:=fun W (hW:Below w1.heap.size w1 W)=>And.intro (LBox.cells (Cells.below B1.out hW)) (LBox.cells (Cells.below B2.out hW))
 have M1:Hid (Below w1.heap.size w1 w1):=Below.refl _ _
 rcases f1:(y.lba !=x.en)
 ·rcases f2:(y.ver !=x.ver)
  ·rcases f3:(y.zone !=x.zone)
   ·rcases f4:(x.zone== -1)
    ·rcases f5:(y.off==x.off+x.n*16)
     ·have L2:=Lib.hid (L1.out.drew)
      have M2:=Lib.hid (M1.out.drew)
      refine wp_region_held_drew (S:=fun W=>(W.cell? ⟨w.heap.size,0,none⟩=some (.int .i64 x.lba)∧W.cell? ⟨w.heap.size,1,none⟩=some (.int .i64 x.n)∧W.cell? ⟨w.heap.size,2,none⟩=some (.int .i64 x.ver)∧W.cell? ⟨w.heap.size,3,none⟩=some (.int .i64 x.zone)∧W.cell? ⟨w.heap.size,4,none⟩=some (.int .i64 x.off))∧(W.cell? ⟨w.heap.size+1,0,none⟩=some (.int .i64 y.lba)∧W.cell? ⟨w.heap.size+1,1,none⟩=some (.int .i64 y.n)∧W.cell? ⟨w.heap.size+1,2,none⟩=some (.int .i64 y.ver)∧W.cell? ⟨w.heap.size+1,3,none⟩=some (.int .i64 y.zone)∧W.cell? ⟨w.heap.size+1,4,none⟩=some (.int .i64 y.off))) (by kernel_rfl) (HS _ M2.out) (fun hHeld=> ?_)
      generalize w1.drew=w2 at*
      clear L1 M1
      refine Reg.tk 0 rfl ?_
      refine Reg.tk 1 rfl ?_
      refine Reg.tk 2 rfl ?_
      refine Reg.step 3 rfl (by kernel_rfl) (by rfl) (fun K hK=> ?_)
      go_simp
      refine(HE w2).out.mono ?_
      rintro e' w3 ⟨rfl,hb⟩
      have L3:=Lib.hid (L2.out.trans (hb.mono L2.out.size))
      have M3:=Lib.hid (M2.out.trans (hb.mono M2.out.size))
      clear hb L2 M2
      refine hK.out _ _ (HS _ M3.out) (fun hHeld=> ?_)
      clear hK K
      (try simp only[Act.put,List.setIfInBounds_toArray,List.set_cons_zero,List.set_cons_succ])
      refine Reg.tk 4 rfl ?_
      refine Reg.tk 5 rfl ?_
      refine Reg.tk 6 rfl ?_
      refine Reg.tk 7 rfl ?_
      refine Reg.tk 8 rfl ?_
      refine Reg.tk 9 rfl ?_
      refine Reg.tk 10 rfl ?_
      refine Reg.tk 11 rfl ?_
      refine Reg.tk 12 rfl ?_
      refine Reg.tk 13 rfl ?_
      refine Reg.tk 14 rfl ?_
      refine Reg.tk 15 rfl ?_
      refine Reg.tk 16 rfl ?_
      refine Reg.tk 17 rfl ?_
      refine Reg.tk 18 rfl ?_
      refine wpAnyH_done (by kernel_rfl) ?_ _
      clear hHeld
      have Q3:=HS _ M3.out
      obtain⟨⟨n0,n1,n2,n3,n4⟩,m0,m1,m2,m3,m4⟩:=Q3
      go_wp2_with fail
      go_ret
      exact⟨by rw[HG.out,f1,f2,f3,f4,f5];rfl,L3.out⟩
     ·have L2:=Lib.hid (L1.out.drew)
      have M2:=Lib.hid (M1.out.drew)
      refine wp_region_held_drew (S:=fun W=>(W.cell? ⟨w.heap.size,0,none⟩=some (.int .i64 x.lba)∧W.cell? ⟨w.heap.size,1,none⟩=some (.int .i64 x.n)∧W.cell? ⟨w.heap.size,2,none⟩=some (.int .i64 x.ver)∧W.cell? ⟨w.heap.size,3,none⟩=some (.int .i64 x.zone)∧W.cell? ⟨w.heap.size,4,none⟩=some (.int .i64 x.off))∧(W.cell? ⟨w.heap.size+1,0,none⟩=some (.int .i64 y.lba)∧W.cell? ⟨w.heap.size+1,1,none⟩=some (.int .i64 y.n)∧W.cell? ⟨w.heap.size+1,2,none⟩=some (.int .i64 y.ver)∧W.cell? ⟨w.heap.size+1,3,none⟩=some (.int .i64 y.zone)∧W.cell? ⟨w.heap.size+1,4,none⟩=some (.int .i64 y.off))) (by kernel_rfl) (HS _ M2.out) (fun hHeld=> ?_)
      generalize w1.drew=w2 at*
      clear L1 M1
      refine Reg.tk 0 rfl ?_
      refine Reg.tk 1 rfl ?_
      refine Reg.tk 2 rfl ?_
      refine Reg.step 3 rfl (by kernel_rfl) (by rfl) (fun K hK=> ?_)
      go_simp
      refine(HE w2).out.mono ?_
      rintro e' w3 ⟨rfl,hb⟩
      have L3:=Lib.hid (L2.out.trans (hb.mono L2.out.size))
      have M3:=Lib.hid (M2.out.trans (hb.mono M2.out.size))
      clear hb L2 M2
      refine hK.out _ _ (HS _ M3.out) (fun hHeld=> ?_)
      clear hK K
      (try simp only[Act.put,List.setIfInBounds_toArray,List.set_cons_zero,List.set_cons_succ])
      refine Reg.tk 4 rfl ?_
      refine Reg.tk 5 rfl ?_
      refine Reg.tk 6 rfl ?_
      refine Reg.tk 7 rfl ?_
      refine Reg.tk 8 rfl ?_
      refine Reg.tk 9 rfl ?_
      refine Reg.tk 10 rfl ?_
      refine Reg.tk 11 rfl ?_
      refine Reg.tk 12 rfl ?_
      refine Reg.tk 13 rfl ?_
      refine Reg.tk 14 rfl ?_
      refine Reg.tk 15 rfl ?_
      refine Reg.tk 16 rfl ?_
      refine Reg.tk 17 rfl ?_
      refine Reg.tk 18 rfl ?_
      refine wpAnyH_done (by kernel_rfl) ?_ _
      clear hHeld
      have Q3:=HS _ M3.out
      obtain⟨⟨n0,n1,n2,n3,n4⟩,m0,m1,m2,m3,m4⟩:=Q3
      go_wp2_with fail
      go_ret
      exact⟨by rw[HG.out,f1,f2,f3,f4,f5];rfl,L3.out⟩
    ·have L2:=Lib.hid (L1.out.drew)
     have M2:=Lib.hid (M1.out.drew)
     refine wp_region_held_drew (S:=fun W=>(W.cell? ⟨w.heap.size,0,none⟩=some (.int .i64 x.lba)∧W.cell? ⟨w.heap.size,1,none⟩=some (.int .i64 x.n)∧W.cell? ⟨w.heap.size,2,none⟩=some (.int .i64 x.ver)∧W.cell? ⟨w.heap.size,3,none⟩=some (.int .i64 x.zone)∧W.cell? ⟨w.heap.size,4,none⟩=some (.int .i64 x.off))∧(W.cell? ⟨w.heap.size+1,0,none⟩=some (.int .i64 y.lba)∧W.cell? ⟨w.heap.size+1,1,none⟩=some (.int .i64 y.n)∧W.cell? ⟨w.heap.size+1,2,none⟩=some (.int .i64 y.ver)∧W.cell? ⟨w.heap.size+1,3,none⟩=some (.int .i64 y.zone)∧W.cell? ⟨w.heap.size+1,4,none⟩=some (.int .i64 y.off))) (by kernel_rfl) (HS _ M2.out) (fun hHeld=> ?_)
     generalize w1.drew=w2 at*
     clear L1 M1
     refine Reg.tk 0 rfl ?_
     refine Reg.tk 1 rfl ?_
     refine Reg.tk 2 rfl ?_
     refine Reg.step 3 rfl (by kernel_rfl) (by rfl) (fun K hK=> ?_)
     go_simp
     refine(HE w2).out.mono ?_
     rintro e' w3 ⟨rfl,hb⟩
     have L3:=Lib.hid (L2.out.trans (hb.mono L2.out.size))
     have M3:=Lib.hid (M2.out.trans (hb.mono M2.out.size))
     clear hb L2 M2
     refine hK.out _ _ (HS _ M3.out) (fun hHeld=> ?_)
     clear hK K
     (try simp only[Act.put,List.setIfInBounds_toArray,List.set_cons_zero,List.set_cons_succ])
     refine Reg.tk 4 rfl ?_
     refine Reg.tk 5 rfl ?_
     refine Reg.tk 6 rfl ?_
     refine Reg.tk 7 rfl ?_
     refine Reg.tk 8 rfl ?_
     refine Reg.tk 9 rfl ?_
     refine Reg.tk 10 rfl ?_
     refine Reg.tk 11 rfl ?_
     refine Reg.tk 12 rfl ?_
     refine Reg.tk 13 rfl ?_
     refine Reg.tk 14 rfl ?_
     refine Reg.tk 15 rfl ?_
     refine Reg.tk 16 rfl ?_
     refine Reg.tk 17 rfl ?_
     refine Reg.tk 18 rfl ?_
     refine wpAnyH_done (by kernel_rfl) ?_ _
     clear hHeld
     have Q3:=HS _ M3.out
     obtain⟨⟨n0,n1,n2,n3,n4⟩,m0,m1,m2,m3,m4⟩:=Q3
     go_wp2_with fail
     go_ret
     exact⟨by rw[HG.out,f1,f2,f3,f4];rfl,L3.out⟩
   ·have L2:=Lib.hid (L1.out.drew)
    have M2:=Lib.hid (M1.out.drew)
    refine wp_region_held_drew (S:=fun W=>(W.cell? ⟨w.heap.size,0,none⟩=some (.int .i64 x.lba)∧W.cell? ⟨w.heap.size,1,none⟩=some (.int .i64 x.n)∧W.cell? ⟨w.heap.size,2,none⟩=some (.int .i64 x.ver)∧W.cell? ⟨w.heap.size,3,none⟩=some (.int .i64 x.zone)∧W.cell? ⟨w.heap.size,4,none⟩=some (.int .i64 x.off))∧(W.cell? ⟨w.heap.size+1,0,none⟩=some (.int .i64 y.lba)∧W.cell? ⟨w.heap.size+1,1,none⟩=some (.int .i64 y.n)∧W.cell? ⟨w.heap.size+1,2,none⟩=some (.int .i64 y.ver)∧W.cell? ⟨w.heap.size+1,3,none⟩=some (.int .i64 y.zone)∧W.cell? ⟨w.heap.size+1,4,none⟩=some (.int .i64 y.off))) (by kernel_rfl) (HS _ M2.out) (fun hHeld=> ?_)
    generalize w1.drew=w2 at*
    clear L1 M1
    refine Reg.tk 0 rfl ?_
    refine Reg.tk 1 rfl ?_
    refine Reg.tk 2 rfl ?_
    refine Reg.step 3 rfl (by kernel_rfl) (by rfl) (fun K hK=> ?_)
    go_simp
    refine(HE w2).out.mono ?_
    rintro e' w3 ⟨rfl,hb⟩
    have L3:=Lib.hid (L2.out.trans (hb.mono L2.out.size))
    have M3:=Lib.hid (M2.out.trans (hb.mono M2.out.size))
    clear hb L2 M2
    refine hK.out _ _ (HS _ M3.out) (fun hHeld=> ?_)
    clear hK K
    (try simp only[Act.put,List.setIfInBounds_toArray,List.set_cons_zero,List.set_cons_succ])
    refine Reg.tk 4 rfl ?_
    refine Reg.tk 5 rfl ?_
    refine Reg.tk 6 rfl ?_
    refine Reg.tk 7 rfl ?_
    refine Reg.tk 8 rfl ?_
    refine Reg.tk 9 rfl ?_
    refine Reg.tk 10 rfl ?_
    refine Reg.tk 11 rfl ?_
    refine Reg.tk 12 rfl ?_
    refine Reg.tk 13 rfl ?_
    refine Reg.tk 14 rfl ?_
    refine Reg.tk 15 rfl ?_
    refine Reg.tk 16 rfl ?_
    refine Reg.tk 17 rfl ?_
    refine Reg.tk 18 rfl ?_
    refine wpAnyH_done (by kernel_rfl) ?_ _
    clear hHeld
    have Q3:=HS _ M3.out
    obtain⟨⟨n0,n1,n2,n3,n4⟩,m0,m1,m2,m3,m4⟩:=Q3
    go_wp2_with fail
    go_ret
    exact⟨by rw[HG.out,f1,f2,f3];rfl,L3.out⟩
  ·have L2:=Lib.hid (L1.out.drew)
   have M2:=Lib.hid (M1.out.drew)
   refine wp_region_held_drew (S:=fun W=>(W.cell? ⟨w.heap.size,0,none⟩=some (.int .i64 x.lba)∧W.cell? ⟨w.heap.size,1,none⟩=some (.int .i64 x.n)∧W.cell? ⟨w.heap.size,2,none⟩=some (.int .i64 x.ver)∧W.cell? ⟨w.heap.size,3,none⟩=some (.int .i64 x.zone)∧W.cell? ⟨w.heap.size,4,none⟩=some (.int .i64 x.off))∧(W.cell? ⟨w.heap.size+1,0,none⟩=some (.int .i64 y.lba)∧W.cell? ⟨w.heap.size+1,1,none⟩=some (.int .i64 y.n)∧W.cell? ⟨w.heap.size+1,2,none⟩=some (.int .i64 y.ver)∧W.cell? ⟨w.heap.size+1,3,none⟩=some (.int .i64 y.zone)∧W.cell? ⟨w.heap.size+1,4,none⟩=some (.int .i64 y.off))) (by kernel_rfl) (HS _ M2.out) (fun hHeld=> ?_)
   generalize w1.drew=w2 at*
   clear L1 M1
   refine Reg.tk 0 rfl ?_
   refine Reg.tk 1 rfl ?_
   refine Reg.tk 2 rfl ?_
   refine Reg.step 3 rfl (by kernel_rfl) (by rfl) (fun K hK=> ?_)
   go_simp
   refine(HE w2).out.mono ?_
   rintro e' w3 ⟨rfl,hb⟩
   have L3:=Lib.hid (L2.out.trans (hb.mono L2.out.size))
   have M3:=Lib.hid (M2.out.trans (hb.mono M2.out.size))
   clear hb L2 M2
   refine hK.out _ _ (HS _ M3.out) (fun hHeld=> ?_)
   clear hK K
   (try simp only[Act.put,List.setIfInBounds_toArray,List.set_cons_zero,List.set_cons_succ])
   refine Reg.tk 4 rfl ?_
   refine Reg.tk 5 rfl ?_
   refine Reg.tk 6 rfl ?_
   refine Reg.tk 7 rfl ?_
   refine Reg.tk 8 rfl ?_
   refine Reg.tk 9 rfl ?_
   refine Reg.tk 10 rfl ?_
   refine Reg.tk 11 rfl ?_
   refine Reg.tk 12 rfl ?_
   refine Reg.tk 13 rfl ?_
   refine Reg.tk 14 rfl ?_
   refine Reg.tk 15 rfl ?_
   refine Reg.tk 16 rfl ?_
   refine Reg.tk 17 rfl ?_
   refine Reg.tk 18 rfl ?_
   refine wpAnyH_done (by kernel_rfl) ?_ _
   clear hHeld
   have Q3:=HS _ M3.out
   obtain⟨⟨n0,n1,n2,n3,n4⟩,m0,m1,m2,m3,m4⟩:=Q3
   go_wp2_with fail
   go_ret
   exact⟨by rw[HG.out,f1,f2];rfl,L3.out⟩
 ·have L2:=Lib.hid (L1.out.drew)
  have M2:=Lib.hid (M1.out.drew)
  refine wp_region_held_drew (S:=fun W=>(W.cell? ⟨w.heap.size,0,none⟩=some (.int .i64 x.lba)∧W.cell? ⟨w.heap.size,1,none⟩=some (.int .i64 x.n)∧W.cell? ⟨w.heap.size,2,none⟩=some (.int .i64 x.ver)∧W.cell? ⟨w.heap.size,3,none⟩=some (.int .i64 x.zone)∧W.cell? ⟨w.heap.size,4,none⟩=some (.int .i64 x.off))∧(W.cell? ⟨w.heap.size+1,0,none⟩=some (.int .i64 y.lba)∧W.cell? ⟨w.heap.size+1,1,none⟩=some (.int .i64 y.n)∧W.cell? ⟨w.heap.size+1,2,none⟩=some (.int .i64 y.ver)∧W.cell? ⟨w.heap.size+1,3,none⟩=some (.int .i64 y.zone)∧W.cell? ⟨w.heap.size+1,4,none⟩=some (.int .i64 y.off))) (by kernel_rfl) (HS _ M2.out) (fun hHeld=> ?_)
  generalize w1.drew=w2 at*
  clear L1 M1
  refine Reg.tk 0 rfl ?_
  refine Reg.tk 1 rfl ?_
  refine Reg.tk 2 rfl ?_
  refine Reg.step 3 rfl (by kernel_rfl) (by rfl) (fun K hK=> ?_)
  go_simp
  refine(HE w2).out.mono ?_
  rintro e' w3 ⟨rfl,hb⟩
  have L3:=Lib.hid (L2.out.trans (hb.mono L2.out.size))
  have M3:=Lib.hid (M2.out.trans (hb.mono M2.out.size))
  clear hb L2 M2
  refine hK.out _ _ (HS _ M3.out) (fun hHeld=> ?_)
  clear hK K
  (try simp only[Act.put,List.setIfInBounds_toArray,List.set_cons_zero,List.set_cons_succ])
  refine Reg.tk 4 rfl ?_
  refine Reg.tk 5 rfl ?_
  refine Reg.tk 6 rfl ?_
  refine Reg.tk 7 rfl ?_
  refine Reg.tk 8 rfl ?_
  refine Reg.tk 9 rfl ?_
  refine Reg.tk 10 rfl ?_
  refine Reg.tk 11 rfl ?_
  refine Reg.tk 12 rfl ?_
  refine Reg.tk 13 rfl ?_
  refine Reg.tk 14 rfl ?_
  refine Reg.tk 15 rfl ?_
  refine Reg.tk 16 rfl ?_
  refine Reg.tk 17 rfl ?_
  refine Reg.tk 18 rfl ?_
  refine wpAnyH_done (by kernel_rfl) ?_ _
  clear hHeld
  have Q3:=HS _ M3.out
  obtain⟨⟨n0,n1,n2,n3,n4⟩,m0,m1,m2,m3,m4⟩:=Q3
  go_wp2_with fail
  go_ret
  exact⟨by rw[HG.out,f1];rfl,L3.out⟩
theorem cut_any (x:Ex) (a b:Int) (hx:MayX x) (ha:0≤a) (ha2:a≤1099511627776) (hb:0≤b) (hb2:b≤1099511627776) (w:World):Calls Tryz.prog 121 #[xv x,.int .i64 a,.int .i64 b] w fun e w'=>e= .returned (xv (cutE x a b))∧Below w.heap.size w w':=by
 have hw1:IntKind.i64.wrap (a-x.lba)=a-x.lba:=by obtain⟨h1,h2,h3,h4,-⟩:=hx;exact wrap_small (by omega) (by omega)
 have hw2:IntKind.i64.wrap ((a-x.lba)*16)=(a-x.lba)*16:=by obtain⟨h1,h2,h3,h4,-⟩:=hx;exact wrap_small (by omega) (by omega)
 have hw3:IntKind.i64.wrap (x.off+(a-x.lba)*16)=x.off+(a-x.lba)*16:=by obtain⟨h1,h2,h3,h4,h5⟩:=hx;rcases h5 with h5|h5<;>exact wrap_small (by omega) (by omega)
 have hw4:IntKind.i64.wrap (b-a)=b-a:=wrap_small (by omega) (by omega)
 clear hx ha ha2 hb hb2
 obtain⟨L1,B1,B2⟩:=two_boxes w x ⟨0,0,0,0,0⟩
 dsimp only at L1 B1 B2
 have hne:w.heap.size≠w.heap.size+1:=by omega
 go_enter Tryz.func121,Tryz.ntmps121
 go_upto_region 1 with fail
 generalize(w.alloc (.cells #[.int .i64 x.lba,.int .i64 x.n,.int .i64 x.ver,.int .i64 x.zone,.int .i64 x.off] 60)).alloc (.cells #[.int .i64 0,.int .i64 0,.int .i64 0,.int .i64 0,.int .i64 0] 60)=w1 at*
 obtain⟨n0,n1,n2,n3,n4⟩:=LBox.cells B1.out
 obtain⟨f0,f1,f2,f3,f4⟩:=LBox.frozen B1.out
 rcases hz:(x.zone != -1)
 ·have HC:Hid (cutE x a b=⟨a,b-a,x.ver,x.zone,x.off⟩):=cutE_none hz
  have E2:Hid (LBox ((w1.setCell ⟨w.heap.size,0,none⟩ (.int .i64 a)).setCell ⟨w.heap.size,1,none⟩ (.int .i64 (b-a))) w.heap.size ⟨a,b-a,x.ver,x.zone,x.off⟩):=Cells.set_ (Cells.set_ B1.out 0 _) 1 _
  have D2:=Lib.hid (Cells.set_other (Cells.set_other B2.out hne 0 (.int .i64 a)) hne 1 (.int .i64 (b-a)))
  have L2:=Lib.hid (belowk (belowk L1.out (Nat.le_refl _) 0 (.int .i64 a)) (Nat.le_refl _) 1 (.int .i64 (b-a)))
  go_upto_region 4 with fail
  generalize(w1.setCell ⟨w.heap.size,0,none⟩ (.int .i64 a)).setCell ⟨w.heap.size,1,none⟩ (.int .i64 (b-a))=w9 at*
  clear n0 n1 n2 n3 n4 f0 f1 f2 f3 f4
  obtain⟨n0,n1,n2,n3,n4⟩:=LBox.cells E2.out
  obtain⟨m0,m1,m2,m3,m4⟩:=LBox.cells (x:=⟨0,0,0,0,0⟩) D2.out
  obtain⟨f0,f1,f2,f3,f4⟩:=LBox.frozen (x:=⟨0,0,0,0,0⟩) D2.out
  dsimp only at n0 n1 n2 n3 n4 m0 m1 m2 m3 m4
  have HR:=Lib.hid (Cells.set5 D2.out (.int .i64 a) (.int .i64 (b-a)) (.int .i64 x.ver) (.int .i64 x.zone) (.int .i64 x.off))
  have L10:=Lib.hid (belowk (belowk (belowk (belowk (belowk L2.out (Nat.le_succ _) 0 (.int .i64 a)) (Nat.le_succ _) 1 (.int .i64 (b-a))) (Nat.le_succ _) 2 (.int .i64 x.ver)) (Nat.le_succ _) 3 (.int .i64 x.zone)) (Nat.le_succ _) 4 (.int .i64 x.off))
  go_wp2_with fail
  refine bodyPost_ret_by (results_c0 rfl _ _ (w.heap.size+1) _ _ _ _ rfl HR.out Tryz.underlying60 rfl (by kernel_rfl)) rfl ?_
  exact⟨by rw[HC.out],L10.out⟩
 ·have HC:Hid (cutE x a b=⟨a,b-a,x.ver,x.zone,x.off+(a-x.lba)*16⟩):=cutE_some hz
  have E2:Hid (LBox (w1.setCell ⟨w.heap.size,4,none⟩ (.int .i64 (x.off+(a-x.lba)*16))) w.heap.size ⟨x.lba,x.n,x.ver,x.zone,x.off+(a-x.lba)*16⟩):=Cells.set_ B1.out 4 _
  have D2:=Lib.hid (Cells.set_other B2.out hne 4 (.int .i64 (x.off+(a-x.lba)*16)))
  have L2:=Lib.hid (belowk L1.out (Nat.le_refl _) 4 (.int .i64 (x.off+(a-x.lba)*16)))
  go_upto_region 3 with fail
  generalize w1.setCell ⟨w.heap.size,4,none⟩ (.int .i64 (x.off+(a-x.lba)*16))=w2 at*
  clear n0 n1 n2 n3 n4 f0 f1 f2 f3 f4 B1 B2 L1
  obtain⟨n0,n1,n2,n3,n4⟩:=LBox.cells E2.out
  obtain⟨f0,f1,f2,f3,f4⟩:=LBox.frozen E2.out
  dsimp only at n0 n1 n2 n3 n4
  have B1:=E2
  have B2:=D2
  clear E2 D2
  have E3:Hid (LBox ((w2.setCell ⟨w.heap.size,0,none⟩ (.int .i64 a)).setCell ⟨w.heap.size,1,none⟩ (.int .i64 (b-a))) w.heap.size ⟨a,b-a,x.ver,x.zone,(x.off+(a-x.lba)*16)⟩):=Cells.set_ (Cells.set_ B1.out 0 _) 1 _
  have D3:=Lib.hid (Cells.set_other (Cells.set_other B2.out hne 0 (.int .i64 a)) hne 1 (.int .i64 (b-a)))
  have L3:=Lib.hid (belowk (belowk L2.out (Nat.le_refl _) 0 (.int .i64 a)) (Nat.le_refl _) 1 (.int .i64 (b-a)))
  go_upto_region 4 with fail
  generalize(w2.setCell ⟨w.heap.size,0,none⟩ (.int .i64 a)).setCell ⟨w.heap.size,1,none⟩ (.int .i64 (b-a))=w9 at*
  clear n0 n1 n2 n3 n4 f0 f1 f2 f3 f4
  obtain⟨n0,n1,n2,n3,n4⟩:=LBox.cells E3.out
  obtain⟨m0,m1,m2,m3,m4⟩:=LBox.cells (x:=⟨0,0,0,0,0⟩) D3.out
  obtain⟨f0,f1,f2,f3,f4⟩:=LBox.frozen (x:=⟨0,0,0,0,0⟩) D3.out
  dsimp only at n0 n1 n2 n3 n4 m0 m1 m2 m3 m4
  have HR:=Lib.hid (Cells.set5 D3.out (.int .i64 a) (.int .i64 (b-a)) (.int .i64 x.ver) (.int .i64 x.zone) (.int .i64 (x.off+(a-x.lba)*16)))
  have L10:=Lib.hid (belowk (belowk (belowk (belowk (belowk L3.out (Nat.le_succ _) 0 (.int .i64 a)) (Nat.le_succ _) 1 (.int .i64 (b-a))) (Nat.le_succ _) 2 (.int .i64 x.ver)) (Nat.le_succ _) 3 (.int .i64 x.zone)) (Nat.le_succ _) 4 (.int .i64 (x.off+(a-x.lba)*16)))
  go_wp2_with fail
  refine bodyPost_ret_by (results_c0 rfl _ _ (w.heap.size+1) _ _ _ _ rfl HR.out Tryz.underlying60 rfl (by kernel_rfl)) rfl ?_
  exact⟨by rw[HC.out],L10.out⟩
end Ext
end
section
open Go.RowKit Mem Ext Go.Shelf Go.Sort
namespace Vm
theorem isNaN_any (a:Int) (w:World):Calls Tryz.prog 103 #[.int .i64 a] w fun e w'=>e= .returned (.bool false)∧w'=w:=by
 go_enter Tryz.func103,Tryz.ntmps103
 go_wp2
 go_ret
 exact⟨by simp,rfl⟩
def cmpI (a b:Int):Int:=bif decide (a<b) then-1 else bif decide (b<a) then 1 else 0
theorem compare_any (a b:Int) (w:World):Calls Tryz.prog 71 #[.int .i64 a,.int .i64 b] w fun e w'=>e= .returned (.int .i64 (cmpI a b))∧w'=w:=by
 have HN:=fun a w=>Lib.hid (isNaN_any a w)
 unfold cmpI
 rcases e1:decide (a<b)
 ·rcases e2:decide (b<a)
  ·go_enter Tryz.func71,Tryz.ntmps71
   go_wp2_with (go_at_call 103;refine(HN _ _).out.mono ?_;rintro e w2 ⟨rfl,rfl⟩)
   go_ret
   exact⟨rfl,rfl⟩
  ·go_enter Tryz.func71,Tryz.ntmps71
   go_wp2_with (go_at_call 103;refine(HN _ _).out.mono ?_;rintro e w2 ⟨rfl,rfl⟩)
   go_ret
   exact⟨rfl,rfl⟩
 ·go_enter Tryz.func71,Tryz.ntmps71
  go_wp2_with (go_at_call 103;refine(HN _ _).out.mono ?_;rintro e w2 ⟨rfl,rfl⟩)
  go_ret
  exact⟨rfl,rfl⟩
theorem cmpI_lt (a b:Int):decide (cmpI a b<0)=decide (a<b):=by
 unfold cmpI
 rcases e1:decide (a<b)
 ·rcases e2:decide (b<a)<;>rfl
 ·rfl
theorem offer1_any (x y:Ex) (W:World):Calls Tryz.prog 133 #[xv x,xv y] W fun e w'=>e= .returned (.int .i64 (cmpI x.ver y.ver))∧∃q os',w'=Go.Sort.grow (W.drewN q) os':=by
 obtain⟨L1,B1,B2⟩:=two_boxes W x y
 have HC:=fun a b w=>Lib.hid (compare_any a b w)
 have HW1:Hid ((W.alloc (.cells #[.int .i64 x.lba,.int .i64 x.n,.int .i64 x.ver,.int .i64 x.zone,.int .i64 x.off] 60)).alloc (.cells #[.int .i64 y.lba,.int .i64 y.n,.int .i64 y.ver,.int .i64 y.zone,.int .i64 y.off] 60)=Go.Sort.grow (W.drewN 0) #[.cells #[.int .i64 x.lba,.int .i64 x.n,.int .i64 x.ver,.int .i64 x.zone,.int .i64 x.off] 60,.cells #[.int .i64 y.lba,.int .i64 y.n,.int .i64 y.ver,.int .i64 y.zone,.int .i64 y.off] 60]):=by
  show _=_
  rw[alloc_eq_grow,alloc_eq_grow,Go.Sort.grow_grow];rfl
 have HQ:∀a:Int,Hid (∃q os',(W.alloc (.cells #[.int .i64 x.lba,.int .i64 x.n,.int .i64 x.ver,.int .i64 x.zone,.int .i64 x.off] 60)).alloc (.cells #[.int .i64 y.lba,.int .i64 y.n,.int .i64 y.ver,.int .i64 y.zone,.int .i64 y.off] 60)=Go.Sort.grow (W.drewN q) os'):=fun _=>⟨0,_,HW1.out⟩
 generalize ha:cmpI x.ver y.ver=a
 have HA:=Lib.hid ha
 clear ha HW1
 go_enter Tryz.func133,Tryz.ntmps133
 go_upto_region 1 with fail
 generalize(W.alloc (.cells #[.int .i64 x.lba,.int .i64 x.n,.int .i64 x.ver,.int .i64 x.zone,.int .i64 x.off] 60)).alloc (.cells #[.int .i64 y.lba,.int .i64 y.n,.int .i64 y.ver,.int .i64 y.zone,.int .i64 y.off] 60)=w1 at*
 have c1:=Ext.Cells.cell B1.out 2
 have c2:=Ext.Cells.cell B2.out 2
 have c1':w1.cell? ⟨W.heap.size,2,none⟩=some (.int .i64 x.ver):=c1
 have c2':w1.cell? ⟨W.heap.size+1,2,none⟩=some (.int .i64 y.ver):=c2
 clear c1 c2
 go_wp2_with (go_at_call 71;refine(HC _ _ _).out.mono ?_;rw[HA.out];rintro e w2 ⟨rfl,rfl⟩)
 go_ret
 exact⟨rfl,(HQ 0).out⟩
theorem look1_any (x y:Ex) (W:World):Calls Tryz.prog 70 #[xv x,xv y] W fun e w'=>e= .returned (.int .i64 (cmpI x.lba y.lba))∧∃q os',w'=Go.Sort.grow (W.drewN q) os':=by
 obtain⟨L1,B1,B2⟩:=two_boxes W x y
 have HC:=fun a b w=>Lib.hid (compare_any a b w)
 have HW1:Hid ((W.alloc (.cells #[.int .i64 x.lba,.int .i64 x.n,.int .i64 x.ver,.int .i64 x.zone,.int .i64 x.off] 60)).alloc (.cells #[.int .i64 y.lba,.int .i64 y.n,.int .i64 y.ver,.int .i64 y.zone,.int .i64 y.off] 60)=Go.Sort.grow (W.drewN 0) #[.cells #[.int .i64 x.lba,.int .i64 x.n,.int .i64 x.ver,.int .i64 x.zone,.int .i64 x.off] 60,.cells #[.int .i64 y.lba,.int .i64 y.n,.int .i64 y.ver,.int .i64 y.zone,.int .i64 y.off] 60]):=by
  show _=_
  rw[alloc_eq_grow,alloc_eq_grow,Go.Sort.grow_grow];rfl
 have HQ:∀a:Int,Hid (∃q os',(W.alloc (.cells #[.int .i64 x.lba,.int .i64 x.n,.int .i64 x.ver,.int .i64 x.zone,.int .i64 x.off] 60)).alloc (.cells #[.int .i64 y.lba,.int .i64 y.n,.int .i64 y.ver,.int .i64 y.zone,.int .i64 y.off] 60)=Go.Sort.grow (W.drewN q) os'):=fun _=>⟨0,_,HW1.out⟩
 generalize ha:cmpI x.lba y.lba=a
 have HA:=Lib.hid ha
 clear ha HW1
 go_enter Tryz.func70,Tryz.ntmps70
 go_upto_region 1 with fail
 generalize(W.alloc (.cells #[.int .i64 x.lba,.int .i64 x.n,.int .i64 x.ver,.int .i64 x.zone,.int .i64 x.off] 60)).alloc (.cells #[.int .i64 y.lba,.int .i64 y.n,.int .i64 y.ver,.int .i64 y.zone,.int .i64 y.off] 60)=w1 at*
 have c1:=Ext.Cells.cell B1.out 0
 have c2:=Ext.Cells.cell B2.out 0
 have c1':w1.cell? ⟨W.heap.size,0,none⟩=some (.int .i64 x.lba):=c1
 have c2':w1.cell? ⟨W.heap.size+1,0,none⟩=some (.int .i64 y.lba):=c2
 clear c1 c2
 go_wp2_with (go_at_call 71;refine(HC _ _ _).out.mono ?_;rw[HA.out];rintro e w2 ⟨rfl,rfl⟩)
 go_ret
 exact⟨rfl,(HQ 0).out⟩
end Vm
end
section
open Go.Shelf
def Vm.laysSort_ren:Go.Shelf.Ren:=⟨fun|6=>69|15=>100|14=>102|28=>145|29=>146|20=>147|21=>148|22=>149|23=>150|24=>151|25=>152|26=>153|27=>154|46=>182|47=>178|48=>179|49=>183|50=>184|57=>199|n=>n,fun|22=>30|24=>60|25=>136|3=>3|39=>175|0=>0|53=>181|55=>197|4=>4|46=>221|45=>220|50=>225|5=>5|9=>9|66=>256|70=>260|76=>276|77=>163|n=>n,fun|n=>n⟩
theorem Vm.laysSort:Go.Proofs.SlLaysF0.n6 Tryz.prog Vm.laysSort_ren:= {
 mixed:=by kernel_rfl,
 f6:=⟨ "slices.SortFunc[[]quickset/api.Ext,quickset/api.Ext]",by decide,Tryz.func69.trans (congrArg some (by kernel_rfl))⟩,
 f14:=⟨ "slices.pdqsortCmpFunc[quickset/api.Ext]",by decide,Tryz.func102.trans (congrArg some (by kernel_rfl))⟩,
 f15:=Tryz.func100.trans (congrArg some (by kernel_rfl)),
 f20:=⟨ "slices.insertionSortCmpFunc[quickset/api.Ext]",by decide,Tryz.func147.trans (congrArg some (by kernel_rfl))⟩,
 f21:=⟨ "slices.heapSortCmpFunc[quickset/api.Ext]",by decide,Tryz.func148.trans (congrArg some (by kernel_rfl))⟩,
 f22:=⟨ "slices.breakPatternsCmpFunc[quickset/api.Ext]",by decide,Tryz.func149.trans (congrArg some (by kernel_rfl))⟩,
 f23:=⟨ "slices.choosePivotCmpFunc[quickset/api.Ext]",by decide,Tryz.func150.trans (congrArg some (by kernel_rfl))⟩,
 f24:=⟨ "slices.reverseRangeCmpFunc[quickset/api.Ext]",by decide,Tryz.func151.trans (congrArg some (by kernel_rfl))⟩,
 f25:=⟨ "slices.partialInsertionSortCmpFunc[quickset/api.Ext]",by decide,Tryz.func152.trans (congrArg some (by kernel_rfl))⟩,
 f26:=⟨ "slices.partitionEqualCmpFunc[quickset/api.Ext]",by decide,Tryz.func153.trans (congrArg some (by kernel_rfl))⟩,
 f27:=⟨ "slices.partitionCmpFunc[quickset/api.Ext]",by decide,Tryz.func154.trans (congrArg some (by kernel_rfl))⟩,
 f28:=Tryz.func145.trans (congrArg some (by kernel_rfl)),
 f29:=Tryz.func146.trans (congrArg some (by kernel_rfl)),
 f46:=⟨ "slices.siftDownCmpFunc[quickset/api.Ext]",by decide,Tryz.func182.trans (congrArg some (by kernel_rfl))⟩,
 f47:=Tryz.func178.trans (congrArg some (by kernel_rfl)),
 f48:=Tryz.func179.trans (congrArg some (by kernel_rfl)),
 f49:=⟨ "slices.medianAdjacentCmpFunc[quickset/api.Ext]",by decide,Tryz.func183.trans (congrArg some (by kernel_rfl))⟩,
 f50:=⟨ "slices.medianCmpFunc[quickset/api.Ext]",by decide,Tryz.func184.trans (congrArg some (by kernel_rfl))⟩,
 f57:=⟨ "slices.order2CmpFunc[quickset/api.Ext]",by decide,Tryz.func199.trans (congrArg some (by kernel_rfl))⟩,
 t0:=Tryz.underlying0,
 a0:=Tryz.isAgg0,
 z0:=Tryz.sizeOf0,
 v0:=Tryz.zeroValue0,
 t3:=Tryz.underlying3,
 a3:=Tryz.isAgg3,
 z3:=Tryz.sizeOf3,
 v3:=Tryz.zeroValue3,
 t4:=Tryz.underlying4,
 a4:=Tryz.isAgg4,
 z4:=Tryz.sizeOf4,
 v4:=Tryz.zeroValue4,
 t5:=Tryz.underlying5,
 a5:=Tryz.isAgg5,
 z5:=Tryz.sizeOf5,
 v5:=Tryz.zeroValue5,
 t9:=Tryz.underlying9,
 a9:=Tryz.isAgg9,
 z9:=Tryz.sizeOf9,
 v9:=Tryz.zeroValue9,
 t22:=Tryz.underlying30,
 a22:=Tryz.isAgg30,
 z22:=Tryz.sizeOf30,
 v22:=Tryz.zeroValue30,
 t25:=Tryz.underlying136,
 a25:=Tryz.isAgg136,
 z25:=Tryz.sizeOf136,
 v25:=Tryz.zeroValue136,
 t39:=Tryz.underlying175,
 a39:=Tryz.isAgg175,
 z39:=Tryz.sizeOf175,
 v39:=Tryz.zeroValue175,
 t45:=Tryz.underlying220,
 a45:=Tryz.isAgg220,
 z45:=Tryz.sizeOf220,
 v45:=Tryz.zeroValue220,
 t46:=Tryz.underlying221,
 a46:=Tryz.isAgg221,
 z46:=Tryz.sizeOf221,
 v46:=Tryz.zeroValue221,
 t50:=Tryz.underlying225,
 a50:=Tryz.isAgg225,
 z50:=Tryz.sizeOf225,
 v50:=Tryz.zeroValue225,
 t53:=Tryz.underlying181,
 a53:=Tryz.isAgg181,
 z53:=Tryz.sizeOf181,
 v53:=Tryz.zeroValue181,
 t55:=Tryz.underlying197,
 a55:=Tryz.isAgg197,
 z55:=Tryz.sizeOf197,
 v55:=Tryz.zeroValue197,
 t66:=Tryz.underlying256,
 a66:=Tryz.isAgg256,
 z66:=Tryz.sizeOf256,
 v66:=Tryz.zeroValue256,
 t70:=Tryz.underlying260,
 a70:=Tryz.isAgg260,
 z70:=Tryz.sizeOf260,
 v70:=Tryz.zeroValue260,
 t76:=Tryz.underlying276,
 a76:=Tryz.isAgg276,
 z76:=Tryz.sizeOf276,
 v76:=Tryz.zeroValue276,
 t77:=Tryz.underlying163,
 a77:=Tryz.isAgg163,
 z77:=Tryz.sizeOf163,
 v77:=Tryz.zeroValue163}
def Vm.laysIns_ren:Go.Shelf.Ren:=⟨fun|20=>147|n=>n,fun|24=>60|22=>30|3=>3|25=>136|4=>4|0=>0|n=>n,fun|n=>n⟩
theorem Vm.laysIns:Go.Proofs.SlLaysF0.n20 Tryz.prog Vm.laysIns_ren:= {
 mixed:=by kernel_rfl,
 f20:=⟨ "slices.insertionSortCmpFunc[quickset/api.Ext]",by decide,Tryz.func147.trans (congrArg some (by kernel_rfl))⟩,
 t0:=Tryz.underlying0,
 a0:=Tryz.isAgg0,
 z0:=Tryz.sizeOf0,
 v0:=Tryz.zeroValue0,
 t3:=Tryz.underlying3,
 a3:=Tryz.isAgg3,
 z3:=Tryz.sizeOf3,
 v3:=Tryz.zeroValue3,
 t4:=Tryz.underlying4,
 a4:=Tryz.isAgg4,
 z4:=Tryz.sizeOf4,
 v4:=Tryz.zeroValue4,
 t22:=Tryz.underlying30,
 a22:=Tryz.isAgg30,
 z22:=Tryz.sizeOf30,
 v22:=Tryz.zeroValue30,
 t25:=Tryz.underlying136,
 a25:=Tryz.isAgg136,
 z25:=Tryz.sizeOf136,
 v25:=Tryz.zeroValue136}
def Vm.laysRev_ren:Go.Shelf.Ren:=⟨fun|35=>131|n=>n,fun|22=>30|23=>60|3=>3|4=>4|0=>0|n=>n,fun|n=>n⟩
theorem Vm.laysRev:Go.Proofs.SlLaysE0.n35 Tryz.prog Vm.laysRev_ren:= {
 mixed:=by kernel_rfl,
 f35:=⟨ "slices.Reverse[[]quickset/api.Ext,quickset/api.Ext]",by decide,Tryz.func131.trans (congrArg some (by kernel_rfl))⟩,
 t0:=Tryz.underlying0,
 a0:=Tryz.isAgg0,
 z0:=Tryz.sizeOf0,
 v0:=Tryz.zeroValue0,
 t3:=Tryz.underlying3,
 a3:=Tryz.isAgg3,
 z3:=Tryz.sizeOf3,
 v3:=Tryz.zeroValue3,
 t4:=Tryz.underlying4,
 a4:=Tryz.isAgg4,
 z4:=Tryz.sizeOf4,
 v4:=Tryz.zeroValue4,
 t22:=Tryz.underlying30,
 a22:=Tryz.isAgg30,
 z22:=Tryz.sizeOf30,
 v22:=Tryz.zeroValue30}
end
section
open Go.RowKit Mem Ext Go.Shelf Go.Sort Stab
namespace Vm
instance exInh:Inhabited Ex:=⟨⟨0,0,0,0,0⟩⟩
abbrev Tg:=Ex × Nat
def cellsT (t:Tg):List Value:=cellsL t.1
theorem flat_at {l:List Tg} {t:Nat} (ht:t<l.length*5):(l.flatMap cellsT)[t]? =some ((cellsT l.toArray[t/5]!)[t%5]!):=by
 induction l generalizing t with
 |nil=>simp at ht
 |cons x r ih=>
  rw[List.flatMap_cons]
  have h5:(cellsT x).length=5:=rfl
  by_cases h:t<5
  ·rw[List.getElem?_append_left (by rw[h5];exact h)]
   have h1:t/5=0:=by omega
   have h2:t%5=t:=by omega
   rw[h1,h2]
   have h3:(x::r).toArray[0]! =x:=rfl
   rw[h3,List.getElem?_eq_getElem (by rw[h5];exact h),getElem!_pos (cellsT x) t (by rw[h5];exact h)]
  ·rw[List.getElem?_append_right (by rw[h5];omega),h5,ih (by simp at ht;omega)]
   have h1:t/5=(t-5)/5+1:=by omega
   have h2:(t-5)%5=t%5:=by omega
   rw[h1,h2]
   have h3:(x::r).toArray[(t-5)/5+1]! =r.toArray[(t-5)/5]! :=by simp
   rw[h3]
theorem flat_list (l:List Tg):(flatK cellsT 5 l.toArray).toList=l.flatMap cellsT:=by
 have hlen:(l.flatMap cellsT).length=l.length*5:=by
  induction l with
  |nil=>rfl
  |cons x r ih=>rw[List.flatMap_cons,List.length_append,ih];show 5+_=_;simp;omega
 apply List.ext_getElem?
 intro t
 by_cases h:t<l.length*5
 ·rw[flat_at h,Array.getElem?_toList,Array.getElem?_eq_getElem (by simpa using h)]
  have:=get_flatK cellsT 5 l.toArray t (by simpa using h)
  rw[getElem!_pos _ t (by simpa using h)] at this
  rw[this]
 ·rw[List.getElem?_eq_none (by simp;omega),List.getElem?_eq_none (by omega)]
theorem heap_put {w:World} {g n:Nat} {os:Array Obj} {cur:Array Value} {e:TypeId} {fr:Nat × Nat} (F:Array Value) (hb:w.heap[g]? =some (.cells cur e fr)):
  (Go.Sort.grow (putRow id (Sort.ahead w n) g 0 F) os).heap[g]? =some (.cells (putCells id 0 F cur) e fr):=by
 have hg:g<w.heap.size:=(Array.getElem?_eq_some_iff.1 hb).1
 rw[heap_grow_old _ _ (by simpa using hg)]
 simp[putRow,mapBlock,Sort.ahead,Array.getElem?_modify,hb,onCells]
theorem grownBy_put {w:World} {g n:Nat} {os:Array Obj} (F:Array Value):w.grownBy (Go.Sort.grow (putRow id (Sort.ahead w n) g 0 F) os) (some g):=by
 refine⟨rfl,rfl,rfl,by simp,fun k hk hne=> ?_⟩
 rw[heap_grow_old _ _ (by simpa using hk)]
 have:g≠k:=fun e=>hne (by rw[e])
 simp[putRow,mapBlock,Sort.ahead,Array.getElem?_modify,this]
theorem take_put (cur:Array Value) (F:Array Value) (h:F.size≤cur.size):(putCells id 0 F cur).toList.take F.size=F.toList:=by
 apply List.ext_getElem?
 intro j
 by_cases hj:j<F.size
 ·rw[List.getElem?_take_of_lt hj,Array.getElem?_toList]
  simp[putCells,hj,show j<cur.size by omega]
 ·rw[List.getElem?_take_eq_none (by omega),List.getElem?_eq_none (by simp;omega)]
theorem holds_flat {w:World} {g:Nat} {cur:Array Value} {e:TypeId} {l:List Tg} (hb:w.heap[g]? =some (.cells cur e (0,0))) (ht:cur.toList.take (l.length*5)=l.flatMap cellsT):HoldsK cellsT 5 w g 0 l.toArray:=by
 intro j hj
 have hj':j<l.length*5:=by simpa using hj
 refine⟨?_,by simp[World.frozen?,hb]⟩
 have h1:(cur.toList.take (l.length*5))[j]? =(l.flatMap cellsT)[j]? :=by rw[ht]
 rw[List.getElem?_take_of_lt hj',flat_at hj'] at h1
 have h2:=get_flatK cellsT 5 l.toArray j (by simpa using hj')
 simp only[World.cell?,hb,Nat.zero_add]
 simp only[Option.isSome_none,Bool.false_eq_true,if_false]
 rw[←Array.getElem?_toList,h1,h2]
 rfl
theorem cells_tag (l:List Ex):(l.zipIdx).flatMap cellsT=l.flatMap cellsL:=by
 rw[List.flatMap_def,List.flatMap_def]
 congr 1
 have:l.zipIdx.map cellsT=(l.zipIdx.map Prod.fst).map cellsL:=by rw[List.map_map];rfl
 rw[this,List.zipIdx_map_fst]
theorem cells_fst (r:List Tg):r.flatMap cellsT=(r.map Prod.fst).flatMap cellsL:=by
 rw[List.flatMap_def,List.flatMap_def,List.map_map];rfl
def verT (t:Tg):Int:=t.1.ver
def idT (s t:Tg):Prop:=s.2<t.2
def byVer (s t:Tg):Prop:=s.1.ver<t.1.ver∨s.1.ver=t.1.ver∧s.2<t.2
def cmpT (s t:Tg):Int:=cmpI s.1.ver t.1.ver
theorem cmpI_swo {α:Type} (f:α→Int):SWO (ltOf fun x y=>cmpI (f x) (f y)):=by
 have h:∀x y,ltOf (fun x y=>cmpI (f x) (f y)) x y=decide (f x<f y):=fun x y=>cmpI_lt _ _
 refine⟨fun x=> ?_,fun x y z h1 h2=> ?_,fun x y z h1 h2=> ?_⟩<;>simp only[h,decide_eq_true_eq,decide_eq_false_iff_not] at* <;>omega
theorem cmpT_swo:SWO (ltOf cmpT):=cmpI_swo fun t:Tg=>t.1.ver
theorem ins_none (A:Option Addr) (c:Nat) (fv:Value) (w:World):Calls Tryz.prog 147 #[.slice A 0 c,.int .i64 0,.int .i64 0,fv] w fun e w'=>e= .returned (.tuple #[])∧w'=w:=by
 go_enter Tryz.func147,Tryz.ntmps147
 go_wp2
 refine wp_loop_rounds 1 ?_
 rw[rounds_succ]
 go_wp2
 go_end0
 exact⟨rfl,rfl⟩
theorem stable_none (A:Option Addr) (c:Nat) (fv:Value) (w:World):Calls Tryz.prog 174 #[.slice A 0 c,.int .i64 0,fv] w fun e w'=>e= .returned (.tuple #[])∧w'=w:=by
 have HI:=fun w=>Lib.hid (ins_none A c fv w)
 go_enter Tryz.func174,Tryz.ntmps174
 go_wp2
 refine wp_loop_rounds 1 ?_
 rw[rounds_succ]
 go_wp2_with (go_at_call 147;refine(HI _).out.mono ?_;rintro e w2 ⟨rfl,rfl⟩)
 refine wp_loop_rounds 1 ?_
 rw[rounds_succ]
 go_wp2
 go_end0
 exact⟨rfl,rfl⟩
theorem own_world {base g n:Nat} {w:World} {cur:Array Value} {c:Nat} (hbg:base≤g) (hg:w.heap[g]? =some (.cells cur 60 (0,0))) (hnc:n≤c) (hcm:c≤maxLen) (hsz:cur.size=c*5) {d:Array Tg} (hd:d.size=n) {m:Nat} {os:Array Obj} {w':World} (hw:w'=sortWorldK cellsT 5 w g 0 m d os) (hb:base≤w.heap.size):
  OwnsL base w' (.slice (some ⟨g,0,none⟩) n c) n (d.toList.map Prod.fst)∧Below base w w':=by
 subst hw
 refine⟨⟨⟨?_,.inr ⟨g,c,putCells id 0 (flatK cellsT 5 d) cur,rfl,hbg,heap_put _ hg,hnc,hcm,by simp[putCells,hsz],?_⟩⟩,by simpa using hd⟩,(Below.refl base w).grown (grownBy_put _) hb (fun q hq=>by injection hq with hq;omega)⟩
 ·rw[←cells_fst,←flat_list];simp[hd]
 ·have h2:=take_put cur (flatK cellsT 5 d) (by rw[size_flatK,hd,hsz];exact Nat.mul_le_mul_right 5 hnc)
  rw[size_flatK,hd] at h2
  rw[h2,←cells_fst]
  have:=flat_list d.toList
  simpa using this
theorem enc5 (x:Tg):(cellsT x).length=5:=rfl
theorem one5 (x:Tg) (v:Value) (hv:v∈cellsT x):v.oneCell'=true:=by simp[cellsT,cellsL] at hv;rcases hv with rfl|rfl|rfl|rfl|rfl<;>rfl
theorem stable_any {base:Nat} {w:World} {A:Option Addr} {n c:Nat} {l:List Ex} (h:OwnsL base w (.slice A n c) n l) (hb:base≤w.heap.size) (hn:n≤64):
  Calls Tryz.prog 132 #[.slice A n c,.func (.func 133) #[] #[]] w fun e w'=>e= .returned (.tuple #[])∧(∃r:List Tg,OwnsL base w' (.slice A n c) n (r.map Prod.fst)∧r.Perm l.zipIdx∧r.Pairwise byVer)∧Below base w w':=by
 have hlen:l.length=n:=h.2
 rcases Nat.eq_zero_or_pos n with h0|h0
 ·subst h0
  have hl0:l= []:=List.eq_nil_of_length_eq_zero hlen
  have HS:=fun w=>Lib.hid (stable_none A c (.func (.func 133) #[] #[]) w)
  have HO:=Lib.hid h
  have HL:=Lib.hid hl0
  clear h hl0 hlen
  go_enter Tryz.func132,Tryz.ntmps132
  go_wp2_with (go_at_call 174;refine(HS _).out.mono ?_;rintro e w2 ⟨rfl,rfl⟩)
  go_end0
  refine⟨rfl,⟨[],?_,by rw[HL.out];exact List.Perm.refl _,List.Pairwise.nil⟩,Below.refl _ _⟩
  have:=HO.out
  rw[HL.out] at this
  exact this
 ·rcases h.1.2 with⟨-,h1⟩|⟨g,cap,cur,hs,hbg,hg,hnc,hcm,hsz,ht⟩
  ·omega
  ·injection hs with e1 _ e3
   subst e1 e3
   obtain⟨d,hd⟩:∃d:Array Tg,d=l.zipIdx.toArray:=⟨_,rfl⟩
   have hdn:d.size=n:=by rw[hd];simpa using hlen
   have hH:HoldsK cellsT 5 w g 0 d:=by
    rw[hd]
    refine holds_flat hg ?_
    rw[cells_tag,List.length_zipIdx,hlen];exact ht
   have hlt:g<w.heap.size:=(Array.getElem?_eq_some_iff.1 hg).1
   have hU:Stb verT idT d 0 n:=fun i j h1 h2 h3 _=>by
    have gi:d[i]! =(l[i]'(by omega),i):=by rw[getElem!_pos d i (by omega)];simp[hd]
    have gj:d[j]! =(l[j]'(by omega),j):=by rw[getElem!_pos d j (by omega)];simp[hd]
    unfold idT
    rw[gi,gj];exact h2
   have eg:∀args w,(callFunc 133 args).run Tryz.prog w= .ok (.enter 133 args) w:=enters_of Tryz.func133 (by kernel_rfl) rfl
   have hC:CmpLays Tryz.prog 133 #[] cellsT 5 cmpT g 0 d.size w:=fun m os dk hs x y=>offer1_any x.1 y.1 _
   have R:RowK cellsT 5 w g 0 d:=⟨enc5,one5,hH,hlt⟩
   have hIN:∀(a b:Nat) (d2:Array Tg) (w2:World),a≤b→b≤d2.size→d2.size<1000000→d.size=d2.size→SWK cellsT 5 w g 0 d2 w2→Stb verT idT d2 a b→Calls Tryz.prog 147 #[.slice (some ⟨g,0,none⟩) d2.size c,.int .i64 a,.int .i64 b,.func (.func 133) #[] #[]] w2 fun e w3=>e= .returned (.tuple #[])∧∃d3,Srt verT idT d3 a b∧Mv d2 d3 a b∧SWK cellsT 5 w g 0 d3 w3:=fun a b d2 w2 h1 h2 h3 h4 h5 h6=>by
    have hi:=ins_spec (lt:=ltOf cmpT) (fun x y=>cmpI_lt _ _) h1 h2 h6
    refine Calls.mono (show Calls Tryz.prog 147 _ _ _ from AnyQ.insertionSortCmpFunc_w laysIns 5 Tryz.isAgg60 Tryz.sizeOf60 cellsT cmpT 133 #[] g 0 c a b d d2 w w2 eg hC R h4 h5 cmpT_swo h1 h2 (by omega)) (fun e w' ⟨q1,q2⟩=>⟨q1,_,hi.1,hi.2,q2⟩)
   have HS:=Lib.hid (stable_s lp (r:=idT) (key:=verT) (cf:=cmpT) (Lib.hid fun x y=>cmpI_lt _ _) eg c hC R n d w hdn hn hdn (SWK.start hH) hU hIN)
   have HD:=Lib.hid hd
   have HO:=Lib.hid (fun(d2:Array Tg) (m:Nat) (os:Array Obj) (w2:World) (h1:d2.size=n) (h2:w2=sortWorldK cellsT 5 w g 0 m d2 os)=>own_world hbg hg hnc hcm hsz h1 h2 hb)
   clear hC hH hIN R hU h hd hg hsz ht
   go_enter Tryz.func132,Tryz.ntmps132
   go_wp2_with (go_at_call 174;refine HS.out.mono ?_;rintro e w2 ⟨rfl,d',hA,hB,k,os,hS⟩;have HA:=Lib.hid hA;have HB:=Lib.hid hB;have HW:=Lib.hid hS;clear hA hB hS)
   go_end0
   have hdn':d'.size=n:=HB.out.size.trans hdn
   obtain⟨o1,o2⟩:=HO.out d' k os _ hdn' HW.out
   refine⟨rfl,⟨d'.toList,o1,?_,?_⟩,o2⟩
   ·have:=HB.out.perm
    rw[HD.out] at this
    simpa using this
   ·rw[List.pairwise_iff_getElem]
    intro i j h1 h2 h3
    have hi:i<d'.size:=by simpa using h1
    have hj:j<d'.size:=by simpa using h2
    have p:=HA.out i j (Nat.zero_le _) h3 (by omega)
    rw[getElem!_pos d' i hi,getElem!_pos d' j hj] at p
    simpa [T,byVer,verT,idT] using p
end Vm
end
end Go.Proofs.YtmkagjnkpjpjcaaGreat
