/-
  SEVERAL TEXTS IN ONE FILE: PZnsMem, PZnsCheck, PRepZone, PRepAll, PRepBytes, PRepKp, PVmClo, PRegionInv.
-/
import Derived.Test.YtmkagjnkpjpjcaaGreatJ12
import Derived.Test.YtmkagjnkpjpjcaaGreatJ11
import Derived.Test.YtmkagjnkpjpjcaaGreatJ10
import Derived.Deep.DeepCutAuto
import Derived.Lib.LazyBuf
import Derived.Test.YtmkagjnkpjpjcaaGreatJ05
import Derived.BigQuiet
import Derived.Test.YtmkagjnkpjpjcaaGreatJ09
import Derived.RangeFuncNested
import Derived.RangeFuncBound
import Derived.RangeFuncCalls
import Derived.RangeFuncLeaves
import Derived.RangeFuncBox
import Derived.Test.YtmkagjnkpjpjcaaGreatJ03
import Derived.Test.YtmkagjnkpjpjcaaGreatJ04
import Derived.WalkKit
import Derived.OrdersHeld
import Derived.RegionTactic
namespace Go.Proofs.YtmkagjnkpjpjcaaGreat
set_option maxRecDepth 100000
set_option linter.unusedSimpArgs false
set_option linter.unusedVariables false
set_option maxHeartbeats 6400000
section
open Go.RowKit Mem Zon
namespace Zns
theorem Row.setNot {w:World} {A:Option Addr} {n c:Nat} {l:List B8} (h:Row cb w A n c l) {p:Addr} {v:Value} (hp:w.cell? p=some v) (hv:∀x,v≠cb x) (v':Value):Row cb (w.setCell p v') A n c l:=by
 refine⟨h.len,h.cap,h.big,fun h0=> ?_⟩
 obtain⟨b,o,e,hb,hc⟩:=h.at_ h0
 refine⟨b,o,e,by simpa using hb,fun i x hi=> ?_⟩
 have h1:=hc i x hi
 have hne:p≠⟨b,o+i,none⟩:=by
  intro e
  subst e
  rw[h1] at hp
  injection hp with hp
  exact hv x hp.symm
 rw[World.cell?_setCell_other _ _ _ _ hne]
 exact h1
theorem int_not (n:Int) (x:BitVec 8):Value.int .i64 n≠cb x:=fun h=>by injection h with h;cases h
theorem slice_not (A:Option Addr) (n c:Nat) (x:BitVec 8):Value.slice A n c≠cb x:=fun h=>by cases h
theorem RowS.drew {α:Type} {cells:α→List Value} {k:Nat} {w:World} {A:Option Addr} {n c:Nat} {xs:List α} (h:RowS cells k w A n c xs):RowS cells k w.drew A n c xs:=h.below (Below.refl _ w).drew
def OwnZ (w:World) (q o:Nat) (xs:List Zv):Prop:=∃cs,Cells w q 46 cs∧∀i x,xs[i]? =some x→∀j u,(cellsZ x)[j]? =some u→cs[o+i*3+j]? =some u
section
variable {w w':World} {q o:Nat} {xs:List Zv}
theorem OwnZ.lt (h:OwnZ w q o xs):q<w.heap.size:=by obtain⟨cs,h,-⟩:=h;exact Cells.lt h
theorem OwnZ.heap (h:OwnZ w q o xs) (e:w'.heap[q]? =w.heap[q]?):OwnZ w' q o xs:=by obtain⟨cs,h1,h2⟩:=h;exact⟨cs,e.trans h1,h2⟩
theorem OwnZ.below (h:OwnZ w q o xs) (hb:Below w.heap.size w w'):OwnZ w' q o xs:=h.heap (hb.block q h.lt)
theorem OwnZ.frozen (h:OwnZ w q o xs) (i:Nat):w.frozen? ⟨q,i,none⟩=false:=by obtain⟨cs,h1,-⟩:=h;exact Cells.frozen h1 i
theorem OwnZ.cell (h:OwnZ w q o xs) {i:Nat} {x:Zv} (hx:xs[i]? =some x) {j:Nat} {u:Value} (hu:(cellsZ x)[j]? =some u):w.cell? ⟨q,o+i*3+j,none⟩=some u:=by
 obtain⟨cs,h1,h2⟩:=h
 rw[Cells.cell h1]
 exact h2 i x hx j u hu
theorem OwnZ.set1 (h:OwnZ w q o xs) {i j:Nat} {x x':Zv} {v:Value} (hx:xs[i]? =some x) (hj:j<3) (hc:cellsZ x'=(cellsZ x).set j v):OwnZ (w.setCell ⟨q,o+i*3+j,none⟩ v) q o (xs.set i x'):=by
 obtain⟨cs,h1,h2⟩:=h
 refine⟨_,heap_set h1 _ _,fun i2 y hy j2 u hu=> ?_⟩
 have hj2:j2<3:=by have:=(List.getElem?_eq_some_iff.1 hu).1;simpa [cellsZ] using this
 rw[List.getElem?_set] at hy
 by_cases hi:i=i2
 ·subst hi
  have hil:i<xs.length:=(List.getElem?_eq_some_iff.1 hx).1
  rw[if_pos rfl,if_pos hil] at hy
  injection hy with hy
  subst hy
  rw[hc,List.getElem?_set] at hu
  by_cases hjj:j=j2
  ·subst hjj
   rw[if_pos rfl,if_pos (by simpa [cellsZ] using hj)] at hu
   injection hu with hu
   subst hu
   obtain⟨u0,hu0⟩:∃u,(cellsZ x)[j]? =some u:=⟨_,List.getElem?_eq_getElem (by simpa [cellsZ] using hj)⟩
   have hb:=(Array.getElem?_eq_some_iff.1 (h2 i x hx j u0 hu0)).1
   simp[hb]
  ·rw[if_neg hjj] at hu
   rw[Array.getElem?_setIfInBounds,if_neg (by omega)]
   exact h2 i x hx j2 u hu
 ·rw[if_neg hi] at hy
  rw[Array.getElem?_setIfInBounds,if_neg (by omega)]
  exact h2 i2 y hy j2 u hu
end
structure Dx where
 cap:Int
 op:Int
 ac:Int
 A:Option Addr
 n:Nat
 c:Nat
 xs:List Zv
def dxv (d:Dx):Value:= .agg #[.int .i64 d.cap,.int .i64 d.op,.int .i64 d.ac,.slice d.A d.n d.c]
def Dx.cells (d:Dx):Array Value:= #[.int .i64 d.cap,.int .i64 d.op,.int .i64 d.ac,.slice d.A d.n d.c]
def Dx.p (d:Dx):Dv:=⟨d.cap,d.op,d.ac,d.xs.map Zv.z⟩
structure DevAt (w:World) (d:Dx):Prop where
 row:RowS cellsZ 3 w d.A d.n d.c d.xs
 data:∀x∈d.xs,Row cb w x.D x.z.data.length x.c x.z.data
theorem DevAt.below {w w':World} {d:Dx} (h:DevAt w d) (hb:Below w.heap.size w w'):DevAt w' d:=⟨h.row.below hb,fun x hx=>(h.data x hx).below hb⟩
theorem DevAt.plen {w:World} {d:Dx} (h:DevAt w d):d.p.zs.length=d.n:=by show(d.xs.map Zv.z).length=_;rw[List.length_map];exact h.row.len
structure Cx where
 c:Cm
 B:Option Addr
 k:Nat
def cxv (x:Cx):Value:= .agg #[.int .i64 x.c.d,.int .i64 x.c.zone,.int .i64 x.c.epoch,.int .i64 x.c.off,.int .i64 x.c.n,.slice x.B x.c.b.length x.k]
def Cx.arr (x:Cx):Array Value:= #[.int .i64 x.c.d,.int .i64 x.c.zone,.int .i64 x.c.epoch,.int .i64 x.c.off,.int .i64 x.c.n,.slice x.B x.c.b.length x.k]
def cellsC (x:Cx):List Value:= [.int .i64 x.c.d,.int .i64 x.c.zone,.int .i64 x.c.epoch,.int .i64 x.c.off,.int .i64 x.c.n,.slice x.B x.c.b.length x.k]
structure CmdAt (w:World) (x:Cx):Prop where
 row:Row cb w x.B x.c.b.length x.k x.c.b
 off:x.c.off≤9223372036854775807
theorem CmdAt.below {w w':World} {x:Cx} (h:CmdAt w x) (hb:Below w.heap.size w w'):CmdAt w' x:=⟨h.row.below hb,h.off⟩
structure Ex where
 p:Dn
 B:Option Addr
 k:Nat
def exv (x:Ex):Value:= .agg #[.int .i64 x.p.e,.int .i64 x.p.at_,.slice x.B x.p.b.length x.k]
def cellsE (x:Ex):List Value:= [.int .i64 x.p.e,.int .i64 x.p.at_,.slice x.B x.p.b.length x.k]
def DoneAt (w:World) (x:Ex):Prop:=Row cb w x.B x.p.b.length x.k x.p.b
theorem DoneAt.below {w w':World} {x:Ex} (h:DoneAt w x) (hb:Below w.heap.size w w'):DoneAt w' x:=Row.below h hb
def Lo (b:Nat) (D:Option Addr):Prop:=∀q o,D=some ⟨q,o,none⟩→b≤q
theorem Lo.none (b:Nat):Lo b Option.none:=fun _ _ h=>by cases h
theorem Lo.mono {a b:Nat} {D:Option Addr} (h:Lo b D) (hab:a≤b):Lo a D:=fun q o e=>Nat.le_trans hab (h q o e)
theorem lo_own {α:Type} {f:α→Value} {e:TypeId} {a b n m c:Nat} {w:World} {D:Option Addr} {l:List α} (h:Mem.Owns f e b w (.slice D m c) n l) (hab:a≤b):Lo a D:=by
 intro q o ed
 subst ed
 rcases h.2 with⟨h1,-⟩|⟨g,cap,cur,h1,hb,-⟩
 ·cases h1
 ·injection h1 with h1
  injection h1 with h1
  injection h1 with h1
  omega
structure Dk where
 g:Nat
 q:Nat
 o:Nat
 cap:Int
 op:Int
 ac:Int
 n:Nat
 c:Nat
structure Desk (k:Dk) (xs:List Zv) (w:World):Prop where
 box:Cells w k.g 151 #[.int .i64 k.cap,.int .i64 k.op,.int .i64 k.ac,.slice (some ⟨k.q,k.o,none⟩) k.n k.c,.bool true]
 own:OwnZ w k.q k.o xs
 len:xs.length=k.n
 cap:k.n≤k.c
 big:k.n≤64
 data:∀x∈xs,Row cb w x.D x.z.data.length x.c x.z.data
 ne:k.g≠k.q
 low:∀x∈xs,Lo k.g x.D
section
variable {k:Dk} {xs:List Zv} {w w':World}
theorem Desk.below (h:Desk k xs w) (hb:Below w.heap.size w w'):Desk k xs w':=
 ⟨Cells.below h.box hb,h.own.below hb,h.len,h.cap,h.big,fun x hx=>(h.data x hx).below hb,h.ne,h.low⟩
theorem Desk.cells (h:Desk k xs w):w.cell? ⟨k.g,0,none⟩=some (.int .i64 k.cap)∧w.cell? ⟨k.g,1,none⟩=some (.int .i64 k.op)∧w.cell? ⟨k.g,2,none⟩=some (.int .i64 k.ac)∧w.cell? ⟨k.g,3,none⟩=some (.slice (some ⟨k.q,k.o,none⟩) k.n k.c)∧w.cell? ⟨k.g,4,none⟩=some (.bool true):=
 ⟨Cells.cell h.box 0,Cells.cell h.box 1,Cells.cell h.box 2,Cells.cell h.box 3,Cells.cell h.box 4⟩
theorem Desk.row (h:Desk k xs w):RowS cellsZ 3 w (some ⟨k.q,k.o,none⟩) k.n k.c xs:=
 ⟨h.len,h.cap,by have:=h.big;omega,fun _=>⟨_,_,rfl,h.own.lt,fun _ _ hx _ _ hu=>h.own.cell hx hu⟩⟩
theorem Desk.elem (h:Desk k xs w) {i:Nat} {x:Zv} (hx:xs[i]? =some x):w.cell? ⟨k.q,k.o+i*3,none⟩=some (.int .i64 x.z.st)∧w.cell? ⟨k.q,k.o+i*3+1,none⟩=some (.int .i64 x.z.fc)∧w.cell? ⟨k.q,k.o+i*3+2,none⟩=some (.slice x.D x.z.data.length x.c):=
 ⟨h.own.cell hx (j:=0) rfl,h.own.cell hx (j:=1) rfl,h.own.cell hx (j:=2) rfl⟩
theorem Desk.data_at (h:Desk k xs w) {i:Nat} {x:Zv} (hx:xs[i]? =some x):Row cb w x.D x.z.data.length x.c x.z.data:=h.data x (List.mem_of_getElem? hx)
theorem Desk.frozen (h:Desk k xs w) (i:Nat):w.frozen? ⟨k.q,i,none⟩=false:=h.own.frozen i
theorem Desk.get (h:Desk k xs w) {i:Nat} (hi:i<k.n):∃x,xs[i]? =some x:=⟨_,List.getElem?_eq_getElem (by have:=h.len;omega)⟩
theorem set_mem {i:Nat} {x x':Zv} {l:List Zv} (h:x∈l.set i x'):x∈l∨x=x':=List.mem_or_eq_of_mem_set h
theorem Desk.set1 (h:Desk k xs w) {i j:Nat} {x x':Zv} {u v:Value} (hx:xs[i]? =some x) (hj:j<3) (hu:(cellsZ x)[j]? =some u) (hn:∀y,u≠cb y) (hc:cellsZ x'=(cellsZ x).set j v)
  (hr:Row cb (w.setCell ⟨k.q,k.o+i*3+j,none⟩ v) x'.D x'.z.data.length x'.c x'.z.data) (hlo:Lo k.g x'.D):Desk k (xs.set i x') (w.setCell ⟨k.q,k.o+i*3+j,none⟩ v):=by
 refine⟨Cells.set_other h.box (fun e=>h.ne e.symm) _ _,h.own.set1 hx hj hc,by rw[List.length_set];exact h.len,h.cap,h.big,fun y hy=> ?_,h.ne,fun y hy=>by
  rcases set_mem hy with hy|rfl
  ·exact h.low y hy
  ·exact hlo⟩
 rcases set_mem hy with hy|rfl
 ·exact Row.setNot (h.data y hy) (h.own.cell hx hu) hn v
 ·exact hr
theorem Desk.store (h:Desk k xs w) {i:Nat} {x:Zv} (x':Zv) (hx:xs[i]? =some x) (hr:Row cb w x'.D x'.z.data.length x'.c x'.z.data) (hlo:Lo k.g x'.D):
  Desk k (xs.set i x') (((w.setCell ⟨k.q,k.o+i*3,none⟩ (.int .i64 x'.z.st)).setCell ⟨k.q,k.o+i*3+1,none⟩ (.int .i64 x'.z.fc)).setCell ⟨k.q,k.o+i*3+2,none⟩ (.slice x'.D x'.z.data.length x'.c)):=by
 have hil:i<xs.length:=(List.getElem?_eq_some_iff.1 hx).1
 obtain⟨e0,e1,e2⟩:=h.elem hx
 have s1:=h.set1 (x':=⟨⟨x'.z.st,x.z.fc,x.z.data⟩,x.D,x.c⟩) (v:= .int .i64 x'.z.st) hx (j:=0) (by omega) rfl (int_not _) rfl (Row.setNot (h.data_at hx) e0 (int_not _) _) (h.low x (List.mem_of_getElem? hx))
 have r1:=Row.setNot hr e0 (int_not _) (.int .i64 x'.z.st)
 have g1:(xs.set i (⟨⟨x'.z.st,x.z.fc,x.z.data⟩,x.D,x.c⟩:Zv))[i]? =some (⟨⟨x'.z.st,x.z.fc,x.z.data⟩,x.D,x.c⟩:Zv):=by simp[hil]
 obtain⟨e0,e1,e2⟩:=s1.elem g1
 have s2:=s1.set1 (x':=⟨⟨x'.z.st,x'.z.fc,x.z.data⟩,x.D,x.c⟩) (v:= .int .i64 x'.z.fc) g1 (j:=1) (by omega) rfl (int_not _) rfl (Row.setNot (s1.data_at g1) e1 (int_not _) _) (h.low x (List.mem_of_getElem? hx))
 have r2:=Row.setNot r1 e1 (int_not _) (.int .i64 x'.z.fc)
 rw[List.set_set] at s2
 have g2:(xs.set i (⟨⟨x'.z.st,x'.z.fc,x.z.data⟩,x.D,x.c⟩:Zv))[i]? =some (⟨⟨x'.z.st,x'.z.fc,x.z.data⟩,x.D,x.c⟩:Zv):=by simp[hil]
 obtain⟨e0,e1,e2⟩:=s2.elem g2
 have r3:=Row.setNot r2 e2 (slice_not _ _ _) (.slice x'.D x'.z.data.length x'.c)
 have s3:=s2.set1 (x':=x') (v:= .slice x'.D x'.z.data.length x'.c) g2 (j:=2) (by omega) rfl (slice_not _ _ _) rfl r3 hlo
 rw[List.set_set] at s3
 exact s3
theorem But.set1 (w:World) (q i:Nat) (v:Value):But q w (w.setCell ⟨q,i,none⟩ v):=
 ⟨⟨rfl,rfl,rfl,by simp,fun b _ hn=>Below.heap_setCell _ _ _ _ (fun e=>hn (by rw[e]))⟩⟩
theorem But.of_below {q:Nat} (h:Below w.heap.size w w'):But q w w':=⟨⟨h.os,h.tape,h.output,h.size,fun b hb _=>h.block b hb⟩⟩
theorem But.set3 {q:Nat} (h:But q w w') (a b c:Nat) (x y v:Value):But q w (((w'.setCell ⟨q,a,none⟩ x).setCell ⟨q,b,none⟩ y).setCell ⟨q,c,none⟩ v):=
 h.trans ((But.set1 _ _ _ _).trans ((But.set1 _ _ _ _).trans (But.set1 _ _ _ _)))
end
def Away (q:Nat) (w:World) (B:Option Addr) (n d:Nat) (l:List B8):Prop:=Row cb w B n d l∧∀b o,B=some ⟨b,o,none⟩→0<n→b≠q
theorem Away.nil (q:Nat) (w:World):Away q w none 0 0 []:=⟨Row.nil cb w,fun _ _ e=>by cases e⟩
def Acted (k:Dk) (w:World) (r:List Zn × Dn) (en:Ending) (w':World):Prop:=
 ∃xs' B d,en= .returned (.agg #[.int .i64 r.2.e,.int .i64 r.2.at_,.slice B r.2.b.length d])∧Desk k xs' w'∧xs'.map Zv.z=r.1∧Away k.q w' B r.2.b.length d r.2.b∧But k.q w w'
theorem atI_of {xs:List Zv} {i:Nat} {x:Zv} (hx:xs[i]? =some x):atI (xs.map Zv.z) i=x.z:=by
 unfold atI
 rw[List.getD_eq_getElem?_getD,List.getElem?_map,hx];rfl
end Zns
end
section
open Go.RowKit Mem Zon
namespace Zns
def DBox (w:World) (g:Nat) (d:Dx):Prop:=Cells w g 26 #[.int .i64 d.cap,.int .i64 d.op,.int .i64 d.ac,.slice d.A d.n d.c]
theorem DBox.below {w w':World} {g:Nat} {d:Dx} (h:DBox w g d) (hb:Below w.heap.size w w'):DBox w' g d:=Cells.below h hb
theorem DBox.cells {w:World} {g:Nat} {d:Dx} (h:DBox w g d):w.cell? ⟨g,0,none⟩=some (.int .i64 d.cap)∧w.cell? ⟨g,1,none⟩=some (.int .i64 d.op)∧w.cell? ⟨g,2,none⟩=some (.int .i64 d.ac)∧w.cell? ⟨g,3,none⟩=some (.slice d.A d.n d.c):=
 ⟨Cells.cell h 0,Cells.cell h 1,Cells.cell h 2,Cells.cell h 3⟩
theorem DBox.new (w:World) (d:Dx):DBox (w.alloc (.cells #[.int .i64 d.cap,.int .i64 d.op,.int .i64 d.ac,.slice d.A d.n d.c] 26)) w.heap.size d:=Cells.new w _ _
theorem bounds_any (n most op ac:Int) (w:World):
  Calls Tryz.prog 44 #[.int .i64 n,.int .i64 most,.int .i64 op,.int .i64 ac] w fun e w'=>e= .returned (.bool (boundsB n most op ac))∧w'=w:=by
 unfold boundsB
 rcases e1:decide (1≤n)
 ·go_enter Tryz.func44,Tryz.ntmps44
  go_wp2
  go_ret
  exact⟨rfl,rfl⟩
 ·rcases e2:decide (n≤64)
  ·go_enter Tryz.func44,Tryz.ntmps44
   go_wp2
   go_ret
   exact⟨rfl,rfl⟩
  ·rcases e3:decide (1≤most)
   ·go_enter Tryz.func44,Tryz.ntmps44
    go_wp2
    go_ret
    exact⟨rfl,rfl⟩
   ·rcases e4:decide (most≤65536)
    ·go_enter Tryz.func44,Tryz.ntmps44
     go_wp2
     go_ret
     exact⟨rfl,rfl⟩
    ·rcases e5:decide (1≤op)
     ·go_enter Tryz.func44,Tryz.ntmps44
      go_wp2
      go_ret
      exact⟨rfl,rfl⟩
     ·rcases e6:decide (op≤ac)
      ·go_enter Tryz.func44,Tryz.ntmps44
       go_wp2
       go_ret
       exact⟨rfl,rfl⟩
      ·rcases e7:decide (ac≤n)
       ·go_enter Tryz.func44,Tryz.ntmps44
        go_wp2
        go_ret
        exact⟨rfl,rfl⟩
       ·go_enter Tryz.func44,Tryz.ntmps44
        go_wp2
        go_ret
        exact⟨rfl,rfl⟩
theorem okD_parts {d:Dv}:okD d=true↔boundsB d.zs.length d.cap d.op d.ac=true∧(∀z∈d.zs,okB z d.cap=true)∧(cO d.zs:Int)≤d.op∧(cA d.zs:Int)≤d.ac:=by
 unfold okD
 simp only[Bool.and_eq_true,List.all_eq_true,Bool.not_eq_true',decide_eq_false_iff_not,Int.not_lt]
theorem bounds_parts {n most op ac:Int}:boundsB n most op ac=true↔1≤n∧n≤64∧1≤most∧most≤65536∧1≤op∧op≤ac∧ac≤n:=by
 unfold boundsB
 simp only[Bool.and_eq_true,decide_eq_true_eq]
theorem okD_dx {d:Dx} {w:World} (h:DevAt w d):okD d.p=true↔boundsB d.n d.cap d.op d.ac=true∧(∀x∈d.xs,okB x.z d.cap=true)∧(cntO d.xs:Int)≤d.op∧(cntA d.xs:Int)≤d.ac:=by
 rw[okD_parts,h.plen,cntO_map,cntA_map]
 unfold Dx.p
 simp only[List.mem_map,forall_exists_index,and_imp,forall_apply_eq_imp_iff₂]
theorem okD_false {d:Dx} {w:World} (h:DevAt w d) (hn:¬(boundsB d.n d.cap d.op d.ac=true∧(∀x∈d.xs,okB x.z d.cap=true)∧(cntO d.xs:Int)≤d.op∧(cntA d.xs:Int)≤d.ac)):okD d.p=false:=by
 rcases e:okD d.p
 ·rfl
 ·exact absurd ((okD_dx h).1 e) hn
theorem check_dev {d:Dx} {w:World} (h:DevAt w d):
  Calls Tryz.prog 28 #[dxv d] w fun e w'=>e= .returned (.int .i64 (errOf (okD d.p)))∧Below w.heap.size w w':=by
 obtain⟨cap,op,ac,A,n,c,xs⟩:=d
 have HR:=Lib.hid h
 have L1:=Lib.hid ((Below.refl w.heap.size w).alloc (Nat.le_refl _) (.cells #[.int .i64 cap,.int .i64 op,.int .i64 ac,.slice A n c] 26))
 have B1:=Lib.hid (DBox.new w ⟨cap,op,ac,A,n,c,xs⟩)
 have hbig:=h.row.big
 have HZ:=fun(z:Zn) D c w=>Lib.hid (check_any z D c cap w)
 have HO:=fun w (h:RowS cellsZ 3 w A n c xs)=>Lib.hid (opened_any h)
 have HA:=fun w (h:RowS cellsZ 3 w A n c xs)=>Lib.hid (active_any h)
 have HN:=Lib.hid (okD_false h)
 have HLN:=Lib.hid (show xs.length=n from h.row.len)
 have HY:=Lib.hid (okD_dx h).2
 clear h
 unfold zv at HZ
 unfold dxv
 generalize okD (Dx.p ⟨cap,op,ac,A,n,c,xs⟩)=ok at*
 rcases hb:boundsB n cap op ac
 ·have HB:=fun w=>bounds_any n cap op ac w
  rw[hb] at HB
  go_enter Tryz.func28,Tryz.ntmps28
  go_upto_region 1 with fail
  generalize w.alloc (.cells #[.int .i64 cap,.int .i64 op,.int .i64 ac,.slice A n c] 26)=w1 at*
  obtain⟨m0,m1,m2,m3⟩:=B1.out.cells
  go_wp2_with fail
  refine(HB w1).mono ?_
  rintro e w2 ⟨rfl,rfl⟩
  go_wp2_with fail
  go_ret
  exact⟨by rw[HN.out (fun h=>by have:=h.1;rw[hb] at this;cases this)];rfl,L1.out⟩
 ·have HB:=fun w=>bounds_any n cap op ac w
  rw[hb] at HB
  go_enter Tryz.func28,Tryz.ntmps28
  go_upto_region 1 with fail
  generalize w.alloc (.cells #[.int .i64 cap,.int .i64 op,.int .i64 ac,.slice A n c] 26)=w1 at*
  obtain⟨m0,m1,m2,m3⟩:=B1.out.cells
  go_wp2_with fail
  refine(HB w1).mono ?_
  rintro e w2 ⟨rfl,rfl⟩
  have L2:=L1
  have B2:=B1
  clear L1 B1 HB
  go_wp2_with fail
  clear m0 m1 m2 m3
  have HBT:=Lib.hid hb
  clear hb
  go_loopw [19] (fun i wr=>∃k:Nat,i= .int .i64 k∧k≤n∧Hid ((∀j,j<k→∀x,xs[j]? =some x→okB x.z cap=true)∧Below w.heap.size w wr∧DBox wr w.heap.size ⟨cap,op,ac,A,n,c,xs⟩)) (fun i _=>n-(intOf i).toNat)
  case atStart=>exact⟨0,rfl,by omega,fun j hj=>by omega,L2.out,B2.out⟩
  case round=>
   obtain⟨k,rfl,hk,hH⟩:=hrel
   by_cases hlt:k<n
   ·obtain⟨x,hx⟩:=HR.out.row.get hlt
    obtain⟨b,o,rfl,hb,hc⟩:=HR.out.row.elem hx
    have c0:wr.cell? ⟨b,o+k*3,none⟩=some (.int .i64 x.z.st):=hc wr (hH.out.2.1.block b hb) 0 _ rfl
    have c1:wr.cell? ⟨b,o+k*3+1,none⟩=some (.int .i64 x.z.fc):=hc wr (hH.out.2.1.block b hb) 1 _ rfl
    have c2:wr.cell? ⟨b,o+k*3+2,none⟩=some (.slice x.D x.z.data.length x.c):=hc wr (hH.out.2.1.block b hb) 2 _ rfl
    have hk0:(0:Int)≤(k:Int):=by omega
    have hk1:(k:Int)<(n:Int):=by omega
    have b1:Below wr.heap.size wr (wr.alloc (.cells #[.int .i64 x.z.st,.int .i64 x.z.fc,.slice x.D x.z.data.length x.c] 46)):=(Below.refl _ wr).alloc (Nat.le_refl _) _
    have LN:=Lib.hid (hH.out.2.1.trans (b1.mono hH.out.2.1.size))
    have BN:=Lib.hid (hH.out.2.2.below b1)
    have HE:=Lib.hid hx
    have HX:=fun w=>HZ x.z x.D x.c w
    clear hc hx b1
    obtain⟨m0,m1,m2,m3⟩:=BN.out.cells
    rcases hof:okB x.z cap
    ·rw[hof] at HX
     unfold errOf at HX
     simp only[cond_false] at HX
     go_wp2_with fail
     refine(HX _).out.mono ?_
     rintro e w2 ⟨rfl,hb2⟩
     have L3:=Lib.hid (LN.out.trans (hb2.mono LN.out.size))
     clear hb2
     go_wp2_with fail
     go_ret
     exact⟨by rw[HN.out (fun h=>by have:=h.2.1 x (List.mem_of_getElem? HE.out);rw[hof] at this;cases this)];rfl,L3.out⟩
    ·rw[hof] at HX
     unfold errOf at HX
     simp only[cond_true] at HX
     go_wp2_with fail
     refine(HX _).out.mono ?_
     rintro e w2 ⟨rfl,hb2⟩
     have L3:=Lib.hid (LN.out.trans (hb2.mono LN.out.size))
     have B3:=Lib.hid (BN.out.below hb2)
     clear hb2
     go_wp2_with fail
     go_roundw
     case rel=>
      refine⟨k+1,by go_num,by omega,fun j hj y hy=> ?_,L3.out,B3.out⟩
      rcases Nat.lt_succ_iff_lt_or_eq.1 hj with h|rfl
      ·exact hH.out.1 j h y hy
      ·have:=HE.out.symm.trans hy;injection this with this;subst this;exact hof
     case measure=>simp[intOf];omega
   ·have hall:Hid (∀x∈xs,okB x.z cap=true):=by
      show ∀_,_
      intro x hx
      obtain⟨j,hj,rfl⟩:=List.mem_iff_getElem.1 hx
      exact hH.out.1 j (by have:=HLN.out;omega) _ (List.getElem?_eq_getElem hj)
    have hkn:n=k:=by omega
    subst hkn
    go_upto_region 9 with fail
    have RW:Hid (RowS cellsZ 3 wr.drew A n c xs):=RowS.drew (HR.out.row.below hH.out.2.1)
    have BW:Hid (DBox wr.drew w.heap.size ⟨cap,op,ac,A,n,c,xs⟩):=hH.out.2.2
    have LW:Hid (Below w.heap.size w wr.drew):=hH.out.2.1.drew
    clear hH hk hlt HZ
    refine wp_region_held_drew (S:=fun W=>W.cell? ⟨w.heap.size,0,none⟩=some (.int .i64 cap)∧W.cell? ⟨w.heap.size,1,none⟩=some (.int .i64 op)∧W.cell? ⟨w.heap.size,2,none⟩=some (.int .i64 ac)∧W.cell? ⟨w.heap.size,3,none⟩=some (.slice A n c))
     (by kernel_rfl) BW.out.cells (fun hHeld=> ?_)
    generalize wr.drew=w2 at*
    refine Reg.tk 0 rfl ?_
    refine Reg.tk 1 rfl ?_
    refine Reg.tk 3 rfl ?_
    refine Reg.tk 4 rfl ?_
    refine Reg.step 2 rfl (by kernel_rfl) (by rfl) (fun K hK=> ?_)
    go_simp
    refine(HO w2 RW.out).out.mono ?_
    rintro e w3 ⟨rfl,hb⟩
    have R3:=Lib.hid (RW.out.below hb)
    have B3:=Lib.hid (BW.out.below hb)
    have L3:=Lib.hid (LW.out.trans (hb.mono LW.out.size))
    clear hb RW BW LW
    refine hK.out _ _ B3.out.cells (fun hHeld2=> ?_)
    clear hK K
    (try simp only[Act.put,List.setIfInBounds_toArray,List.set_cons_zero,List.set_cons_succ])
    rcases e5:decide (op<(cntO xs:Int))
    ·refine Reg.tk 5 rfl ?_
     refine Reg.tk 6 rfl ?_
     refine Reg.tk 7 rfl ?_
     refine Reg.tk 8 rfl ?_
     refine Reg.tk 10 rfl ?_
     refine Reg.tk 11 rfl ?_
     refine Reg.step 9 rfl (by kernel_rfl) (by rfl) (fun K hK=> ?_)
     go_simp
     refine(HA w3 R3.out).out.mono ?_
     rintro e w4 ⟨rfl,hb⟩
     have B4:=Lib.hid (B3.out.below hb)
     have L4:=Lib.hid (L3.out.trans (hb.mono L3.out.size))
     clear hb R3 B3 L3
     refine hK.out _ _ B4.out.cells (fun hHeld3=> ?_)
     clear hK K
     (try simp only[Act.put,List.setIfInBounds_toArray,List.set_cons_zero,List.set_cons_succ])
     rcases e6:decide (ac<(cntA xs:Int))
     ·refine Reg.tk 12 rfl ?_
      refine Reg.tk 13 rfl ?_
      refine wpAnyH_done (by kernel_rfl) ?_ _
      go_wp2_with fail
      go_ret
      have hok:=HY.out ⟨HBT.out,hall.out,by have:=of_decide_eq_false e5;omega,by have:=of_decide_eq_false e6;omega⟩
      exact⟨by rw[hok];rfl,L4.out⟩
     ·refine Reg.tk 12 rfl ?_
      refine Reg.tk 13 rfl ?_
      refine wpAnyH_done (by kernel_rfl) ?_ _
      go_wp2_with fail
      go_ret
      have hok:=HN.out (fun h=>by have:=h.2.2.2;have:=of_decide_eq_true e6;omega)
      exact⟨by rw[hok];rfl,L4.out⟩
    ·refine Reg.tk 5 rfl ?_
     refine Reg.tk 6 rfl ?_
     refine Reg.tk 7 rfl ?_
     refine Reg.tk 8 rfl ?_
     refine Reg.tk 9 rfl ?_
     refine Reg.tk 10 rfl ?_
     refine Reg.tk 11 rfl ?_
     refine Reg.tk 12 rfl ?_
     refine Reg.tk 13 rfl ?_
     refine wpAnyH_done (by kernel_rfl) ?_ _
     go_wp2_with fail
     go_ret
     have hok:=HN.out (fun h=>by have:=h.2.2.1;have:=of_decide_eq_true e5;omega)
     exact⟨by rw[hok];rfl,L3.out⟩
end Zns
end
section
open Go.RowKit Mem Box
namespace Rp
open Seg (Hdr Rc Rv fits nums hnums nn frame headX recX frames check headAt Scans sized FoundIn)
open Pk (rvV RBox seven_cells seven_free set7 mov7 placeR flen)
open Zon (Zn Zv B8)
structure Fd where
 hd:Bool
 h:Hdr
 rs:List Rc
 u0:Nat
 used:Nat
def Fd.no:Fd:=⟨false,⟨0,0,0⟩,[],0,0⟩
def Fd.seg (h:Hdr) (rs:List Rc):Fd:=⟨true,h,rs,(frame (headX h)).length,(frame (headX h)).length+(frames rs).length⟩
inductive HoldsF:List B8→Fd→Prop
 |no {D:List B8} (h:headAt D=none):HoldsF D Fd.no
 |seg {h:Hdr} {rs:List Rc} {b:List B8} (hf:fits (hnums h)) (hn:nn (hnums h)) (hs:Scans b (sized rs)):HoldsF (frame (headX h)++b) (Fd.seg h rs)
theorem holds_nil:HoldsF [] Fd.no:= .no (by decide)
theorem HoldsF.good {D:List B8} {f:Fd} (h:HoldsF D f):∀r∈f.rs,Seg.good r:=by
 cases h with
 |no _=>intro r hr;cases hr
 |seg _ _ hs=>
  have:=(Seg.scans_one hs).2.1
  rw[Seg.sized_fst] at this
  exact this
theorem HoldsF.many {D:List B8} {f:Fd} (h:HoldsF D f):f.u0+5*f.rs.length≤D.length∧f.used≤D.length∧f.u0+(frames f.rs).length≤D.length:=by
 cases h with
 |no _=>exact⟨Nat.zero_le _,Nat.zero_le _,Nat.zero_le _⟩
 | @seg h rs b _ _ hs=>
   obtain⟨-,-,rest,hr,-⟩:=Seg.scans_one hs
   rw[Seg.sized_fst] at hr
   have h1:=Pk.frames_ge rs
   have h2:b.length=(frames rs).length+rest.length:=by rw[hr,List.length_append]
   simp only[Fd.seg,List.length_append]
   omega
abbrev fcells (f:Fd) (LA:Option Addr) (LC:Nat) (AA:Option Addr) (AC:Nat):Array Value:= #[.bool f.hd,.int .i64 f.h.host,.int .i64 f.h.epoch,.int .i64 f.h.seq,.slice LA f.rs.length LC,.slice AA f.rs.length AC,.int .i64 (f.used:Int)]
def FndF (f:Fd) (w:World) (en:Ending) (w':World):Prop:=∃zs LA LC AA AC,en= .returned (.agg #[.bool f.hd,.int .i64 f.h.host,.int .i64 f.h.epoch,.int .i64 f.h.seq,.slice LA f.rs.length LC,.slice AA f.rs.length AC,.int .i64 (f.used:Int)])∧FoundIn w.heap.size f.u0 (sized f.rs) (.slice LA f.rs.length LC) (.slice AA f.rs.length AC) zs w'∧Below w.heap.size w w'
theorem scan_fd {D:List B8} {f:Fd} {A:Option Addr} {n c:Nat} {w:World} (hr:Row cb w A n c D) (hn:n≤1000000) (hf:HoldsF D f):Calls Tryz.prog 43 #[.slice A n c] w (FndF f w):=by
 cases hf with
 |no h=>
  refine(Seg.scan_none hr hn h).mono ?_
  intro e w' hS
  unfold Seg.Scanned at hS
  rw[h] at hS
  obtain⟨rfl,hb⟩:=hS
  exact⟨[],none,0,none,0,rfl,FoundIn.nil,hb⟩
 | @seg h rs b hf hnn hs=>
   have hh:=Seg.headAt_seg h hf hnn b
   have hcall:Calls Tryz.prog 43 #[.slice A n c] w (Seg.Scanned (frame (headX h)++b) w):=by
    have hh2:=hh
    unfold Seg.headAt at hh2
    split at hh2
    ·rename_i x k ht
     split at hh2
     ·rename_i h' hth
      exact Seg.scan_some hr hn ht hth
     ·cases hh2
    ·cases hh2
   refine hcall.mono ?_
   intro e w' hS
   unfold Seg.Scanned at hS
   rw[hh] at hS
   obtain⟨⟨acc,L,At,xs,h1,h2,rfl,h4⟩,h5⟩:=hS
   rw[List.drop_left] at h1
   obtain rfl:acc=Seg.sized rs:=h1.det hs
   obtain⟨LA,LC,rfl⟩:=h4.rows.slice
   obtain⟨AA,AC,rfl⟩:=h4.ats.slice
   rw[Seg.sized_len] at h4
   unfold Seg.foundV
   rw[Seg.sized_len,Seg.sized_total]
   exact⟨xs,LA,LC,AA,AC,rfl,h4,h5⟩
abbrev FBox (w:World) (g:Nat) (f:Fd) (LA:Option Addr) (LC:Nat) (AA:Option Addr) (AC:Nat):Prop:=Cells w g 71 #[.bool f.hd,.int .i64 f.h.host,.int .i64 f.h.epoch,.int .i64 f.h.seq,.slice LA f.rs.length LC,.slice AA f.rs.length AC,.int .i64 (f.used:Int)]
theorem found_chg {t:TypeId} {r:Option Nat} {base u0:Nat} {acc:List (Rc × Nat)} {L A:Value} {xs:List Rv} {w w':World} (hc:Chg t r w w') (h:FoundIn base u0 acc L A xs w) (h1:49≠t) (h2:3≠t) (h3:5≠t):FoundIn base u0 acc L A xs w':=
 ⟨hc.owns (cells:=Seg.cellsOf) (k:=7) h.rows h1,hc.ownI h.ats h2,fun x hx=>hc.ownI (h.data x hx) h3,h.recs⟩
theorem zone_any {z:Zn} {B:Option Addr} {k:Nat} {f:Fd} {w:World} (hr:Row cb w B z.data.length k z.data) (hn:z.data.length≤1000000) (hf:HoldsF z.data f):
  Calls Tryz.prog 21 #[.agg #[.int .i64 z.st,.int .i64 z.fc,.slice B z.data.length k]] w (FndF f w):=by
 have HS:=fun W (hW:Below w.heap.size w W)=>Lib.hid (scan_fd (hr.below hW) hn hf)
 have L1:Hid (Below w.heap.size w ((w.alloc (.cells #[.int .i64 z.st,.int .i64 z.fc,.slice B z.data.length k] 46)).alloc (.cells #[.bool false,.int .i64 0,.int .i64 0,.int .i64 0,.slice none 0 0,.slice none 0 0,.int .i64 0] 71))):=((Below.refl _ w).alloc (Nat.le_refl _) _).alloc (by simp) _
 have X1:Hid (Cells ((w.alloc (.cells #[.int .i64 z.st,.int .i64 z.fc,.slice B z.data.length k] 46)).alloc (.cells #[.bool false,.int .i64 0,.int .i64 0,.int .i64 0,.slice none 0 0,.slice none 0 0,.int .i64 0] 71)) w.heap.size 46 #[.int .i64 z.st,.int .i64 z.fc,.slice B z.data.length k]):=Cells.alloc (Cells.new _ _ _) _
 have Z1:Hid (Cells ((w.alloc (.cells #[.int .i64 z.st,.int .i64 z.fc,.slice B z.data.length k] 46)).alloc (.cells #[.bool false,.int .i64 0,.int .i64 0,.int .i64 0,.slice none 0 0,.slice none 0 0,.int .i64 0] 71)) (w.heap.size+1) 71 #[.bool false,.int .i64 0,.int .i64 0,.int .i64 0,.slice none 0 0,.slice none 0 0,.int .i64 0]):=by
  have:=Cells.new (w.alloc (.cells #[.int .i64 z.st,.int .i64 z.fc,.slice B z.data.length k] 46)) #[.bool false,.int .i64 0,.int .i64 0,.int .i64 0,.slice none 0 0,.slice none 0 0,.int .i64 0] 71
  rw[World.size_alloc] at this
  exact this
 clear hr hn hf
 go_enter Tryz.func21,Tryz.ntmps21
 go_upto_region 1 with fail
 generalize(w.alloc (.cells #[.int .i64 z.st,.int .i64 z.fc,.slice B z.data.length k] 46)).alloc (.cells #[.bool false,.int .i64 0,.int .i64 0,.int .i64 0,.slice none 0 0,.slice none 0 0,.int .i64 0] 71)=w1 at*
 have m2:=Cells.cell X1.out 2
 have m2':w1.cell? ⟨w.heap.size,2,none⟩=some (.slice B z.data.length k):=m2
 obtain⟨f0,f1,f2,f3,f4,f5,f6⟩:=seven_free Z1.out
 clear m2
 go_wp2_with fail
 refine(HS w1 L1.out).out.mono ?_
 rintro e w2 ⟨zs,LA,LC,AA,AC,rfl,hF,hb⟩
 have L2:=Lib.hid (L1.out.trans (hb.mono L1.out.size))
 have Z2:=Lib.hid (Cells.below Z1.out hb)
 have F2:=Lib.hid (hF.mono L1.out.size)
 clear hF hb m2' f0 f1 f2 f3 f4 f5 f6
 obtain⟨z0,z1,z2,z3,z4,z5,z6⟩:=seven_cells Z2.out
 obtain⟨f0,f1,f2,f3,f4,f5,f6⟩:=seven_free Z2.out
 go_wp2_with fail
 have bt:=mov7 w2 (w.heap.size+1) (.bool f.hd) (.int .i64 f.h.host) (.int .i64 f.h.epoch) (.int .i64 f.h.seq) (.slice LA f.rs.length LC) (.slice AA f.rs.length AC) (.int .i64 (f.used:Int))
 have HR:=set7 Z2.out (.bool f.hd) (.int .i64 f.h.host) (.int .i64 f.h.epoch) (.int .i64 f.h.seq) (.slice LA f.rs.length LC) (.slice AA f.rs.length AC) (.int .i64 (f.used:Int))
 have hch:Chg 71 (some (w.heap.size+1)) w2 (Pk.set7W w2 (w.heap.size+1) (.bool f.hd) (.int .i64 f.h.host) (.int .i64 f.h.epoch) (.int .i64 f.h.seq) (.slice LA f.rs.length LC) (.slice AA f.rs.length AC) (.int .i64 (f.used:Int))):=Chg.mov Z2.out bt
 refine bodyPost_ret_by (results_c0 rfl _ _ (w.heap.size+1) _ _ _ _ rfl HR Tryz.underlying71 rfl (by kernel_rfl)) rfl ?_
 exact⟨zs,LA,LC,AA,AC,rfl,found_chg hch F2.out (by decide) (by decide) (by decide),L2.out.trans (bt.up L2.out.size (by omega))⟩
theorem data_any {y:Rv} {w:World} (hf:fits (nums y.r)) (hc:check y.r=0) (h:Row cb w y.D y.r.data.length y.c y.r.data):
  Calls Tryz.prog 62 #[.agg #[.int .i64 y.r.kind,.int .i64 y.r.lba,.int .i64 y.r.n,.int .i64 y.r.ver,.int .i64 y.r.zone,.int .i64 y.r.off,.slice y.D y.r.data.length y.c]] w fun e w'=>e= .returned (.tuple #[.int .i64 (placeR y.r),.int .i64 0])∧Below w.heap.size w w':=by
 have HF:=fun W (hW:Below w.heap.size w W)=>Lib.hid (Pk.frame_ok hf hc (h.below hW))
 unfold rvV at HF
 have L1:=Lib.hid ((Below.refl w.heap.size w).alloc (Nat.le_refl _) (.cells #[.int .i64 y.r.kind,.int .i64 y.r.lba,.int .i64 y.r.n,.int .i64 y.r.ver,.int .i64 y.r.zone,.int .i64 y.r.off,.slice y.D y.r.data.length y.c] 49))
 have B1:Hid (RBox (w.alloc (.cells #[.int .i64 y.r.kind,.int .i64 y.r.lba,.int .i64 y.r.n,.int .i64 y.r.ver,.int .i64 y.r.zone,.int .i64 y.r.off,.slice y.D y.r.data.length y.c] 49)) w.heap.size y):=Cells.new _ _ _
 clear hf hc h
 go_enter Tryz.func62,Tryz.ntmps62
 go_upto_region 1 with fail
 generalize w.alloc (.cells #[.int .i64 y.r.kind,.int .i64 y.r.lba,.int .i64 y.r.n,.int .i64 y.r.ver,.int .i64 y.r.zone,.int .i64 y.r.off,.slice y.D y.r.data.length y.c] 49)=w1 at*
 obtain⟨m0,m1,m2,m3,m4,m5,m6⟩:=seven_cells B1.out
 go_wp2_with fail
 refine(HF w1 L1.out).out.mono ?_
 rintro e w2 ⟨X,d,rfl,-,hb⟩
 have L2:=Lib.hid (L1.out.trans (hb.mono L1.out.size))
 clear hb
 go_wp2_with fail
 go_ret2
 exact⟨rfl,L2.out⟩
end Rp
end
section
open Go.RowKit Mem Box Zns
namespace Rp
open Seg (Hdr Rc Rv fits nums hnums nn frame headX recX frames check headAt Scans sized FoundIn)
open Pk (rvV RBox seven_cells seven_free set7 mov7 placeR flen)
open Zon (Zn Zv B8 cellsZ)
structure Dev (w:World) (X:Dx) (fs:List Fd):Prop where
 at_:DevAt w X
 ok:okD X.p=true
 fit:∀(i:Nat) (v:Zv),X.xs[i]? =some v→∃f,fs[i]? =some f∧HoldsF v.z.data f
 len:fs.length=X.n
section
variable {w w':World} {X:Dx} {fs:List Fd}
theorem Dev.below (h:Dev w X fs) (hb:Below w.heap.size w w'):Dev w' X fs:=⟨h.at_.below hb,h.ok,h.fit,h.len⟩
theorem Dev.few (h:Dev w X fs):X.n≤64:=by
 have:=bounds_parts.1 ((okD_dx h.at_).1 h.ok).1
 omega
theorem Dev.cap (h:Dev w X fs) {v:Zv} (hv:v∈X.xs):v.z.data.length≤65536:=by
 have h0:=bounds_parts.1 ((okD_dx h.at_).1 h.ok).1
 have h1:=Zon.ok_parts (((okD_dx h.at_).1 h.ok).2.1 v hv)
 have h2:v.z.len=(v.z.data.length:Int):=rfl
 omega
theorem Dev.zone (h:Dev w X fs) {k:Nat} (hk:k<X.n):∃v f,X.xs[k]? =some v∧fs[k]? =some f∧HoldsF v.z.data f∧Row cb w v.D v.z.data.length v.c v.z.data∧v.z.data.length≤65536:=by
 have hl:=h.at_.row.len
 obtain⟨v,hv⟩:∃v,X.xs[k]? =some v:=⟨_,List.getElem?_eq_getElem (by omega)⟩
 obtain⟨f,hf,hh⟩:=h.fit k v hv
 have hm:=List.mem_of_getElem? hv
 exact⟨v,f,hv,hf,hh,h.at_.data v hm,h.cap hm⟩
end
theorem box_new (w:World) (X:Dx):Cells (w.alloc (.cells #[.int .i64 X.cap,.int .i64 X.op,.int .i64 X.ac,.slice X.A X.n X.c] 26)) w.heap.size 26 #[.int .i64 X.cap,.int .i64 X.op,.int .i64 X.ac,.slice X.A X.n X.c]:=Cells.new _ _ _
def iota (n:Nat):List Int:=(List.range n).map fun(i:Nat)=>(i:Int)
theorem iota_succ (n:Nat):iota (n+1)=iota n++ [(n:Int)]:=by unfold iota;rw[List.range_succ,List.map_append];rfl
theorem iota_get {n k:Nat} (h:k<n):(iota n)[k]? =some (k:Int):=by unfold iota;rw[List.getElem?_map,List.getElem?_range h];rfl
theorem iota_len (n:Nat):(iota n).length=n:=by simp[iota]
abbrev OwnI (base:Nat) (w:World) (A:Option Addr) (n c:Nat) (l:List Int):Prop:=Mem.Owns ci 3 base w (.slice A n c) n l
theorem info_int:(Tryz.prog.info? 3).map (fun i=>(i.zero,i.size,i.bytes))=some (some (.int .i64 0),1,8):=by kernel_rfl
theorem row_int (w:World) (x:Int):Row ci (w.alloc (.cells #[.int .i64 x] 3)) (some ⟨w.heap.size,0,none⟩) 1 1 [x]:=Wire.row_one ci w x _ _ rfl
theorem all_any {X:Dx} {w:World} (h:DevAt w X) (hk:okD X.p=true):
  Calls Tryz.prog 32 #[.agg #[.int .i64 X.cap,.int .i64 X.op,.int .i64 X.ac,.slice X.A X.n X.c]] w fun e w'=>∃A c,e= .returned (.slice A X.n c)∧OwnI w.heap.size w' A X.n c (iota X.n)∧Below w.heap.size w w':=by
 have HC:=fun W (hW:Below w.heap.size w W)=>Lib.hid (check_dev (h.below hW))
 unfold dxv at HC
 rw[hk] at HC
 have hn:X.n≤64:=by
  have:=bounds_parts.1 ((okD_dx h).1 hk).1
  omega
 have e0:Zon.errOf true=0:=rfl
 rw[e0] at HC
 have L1:=Lib.hid ((Below.refl w.heap.size w).alloc (Nat.le_refl _) (.cells #[.int .i64 X.cap,.int .i64 X.op,.int .i64 X.ac,.slice X.A X.n X.c] 26))
 have B1:=Lib.hid (box_new w X)
 clear h hk e0
 obtain⟨cap,op,ac,A,n,c,xs⟩:=X
 dsimp only at*
 go_enter Tryz.func32,Tryz.ntmps32
 go_upto_region 1 with fail
 generalize w.alloc (.cells #[.int .i64 cap,.int .i64 op,.int .i64 ac,.slice A n c] 26)=w1 at*
 have m0:=Cells.cell B1.out 0
 have m1:=Cells.cell B1.out 1
 have m2:=Cells.cell B1.out 2
 have m3:=Cells.cell B1.out 3
 go_upto_region 4 with(go_at_call 28;refine(HC w1 L1.out).out.mono ?_;rintro e w2 ⟨rfl,hb⟩;have L2:=Lib.hid (L1.out.trans (hb.mono L1.out.size));have B2:=Lib.hid (Cells.below B1.out hb);clear hb)
 clear m0 m1 m2 m3
 have m3:=Cells.cell B2.out 3
 have m3':w2.cell? ⟨w.heap.size,3,none⟩=some (.slice A n c):=m3
 clear m3
 go_wp2_with fail
 go_loopw [3,4,11] (fun s _ i wr=>∃(k:Nat) (S:Option Addr) (m d:Nat),i= .int .i64 k∧s= .slice S m d∧m=k∧k≤n∧Hid (Below w.heap.size w wr∧OwnI w.heap.size wr S m d (iota k))) (fun _ _ i _=>n-(intOf i).toNat)
 case atStart=>exact⟨0,none,0,0,rfl,rfl,rfl,by omega,L2.out,Mem.Owns.nil _ _ _ _⟩
 case round=>
  clear L2 m3' B2
  obtain⟨k,S,m,d,rfl,rfl,hmk,hkn,hH⟩:=hrel
  by_cases hlt:k<n
  ·have hk1:(k:Int)<(n:Int):=by omega
   have A5:Hid (Below w.heap.size w (wr.alloc (.cells #[.int .i64 (k:Int)] 3))):=hH.out.1.alloc hH.out.1.size _
   have hm64:m≤64:=by omega
   have HMK:=Lib.hid hmk
   clear hmk
   go_wp2_with (at_builtin
                refine wpList_append_row ci_one Tryz.underlying34 info_int rfl rfl (.tmp 14) (.tmp 16) rfl rfl w.heap.size (.slice S m d) m _ rfl (Mem.Owns.alloc hH.out.2 _) _ 1 1 [(k:Int)] rfl (row_int wr k) (by omega) (by omega) A5.out.size ?_
                intro A' c' w' h1 h2
                have O6:=Lib.hid h1
                have A6:=Lib.hid (A5.out.trans h2)
                clear h1 h2)
   go_roundw
   case rel=>exact⟨k+1,A',m+1,c',by go_num,rfl,by have:=HMK.out;omega,by omega,A6.out,by rw[iota_succ];exact O6.out⟩
   case measure=>simp[intOf];omega
  ·have hkk:k=n:=by omega
   subst hkk
   subst hmk
   go_wp2_with fail
   go_ret
   exact⟨S,d,rfl,hH.out.2,hH.out.1⟩
def hcells (h:Hdr):List Value:= [.int .i64 h.host,.int .i64 h.epoch,.int .i64 h.seq]
theorem fitH:OwnS.Fit hcells 3:=⟨by omega,fun _=>rfl,fun x u hu=>by
 simp[hcells] at hu
 rcases hu with rfl|rfl|rfl<;>rfl⟩
theorem info_hdr:(Tryz.prog.info? 68).map (fun i=>(i.zero,i.size,i.bytes))=some (some (.agg #[.int .i64 0,.int .i64 0,.int .i64 0]),3,24):=by kernel_rfl
abbrev OwnH (base:Nat) (w:World) (A:Option Addr) (n c:Nat) (l:List Hdr):Prop:=OwnS.Owns hcells 3 68 base w (.slice A n c) n l
def headF (f:Fd):Hdr:=bif f.hd then f.h else⟨-1,0,0⟩
theorem row_hdr (w:World) (h:Hdr):RowS hcells 3 (w.alloc (.cells #[.int .i64 h.host,.int .i64 h.epoch,.int .i64 h.seq] 68)) (some ⟨w.heap.size,0,none⟩) 1 1 [h]:=by
 have hc:=Cells.new w #[.int .i64 h.host,.int .i64 h.epoch,.int .i64 h.seq] 68
 refine⟨rfl,by omega,by omega,fun _=>⟨_,_,rfl,hc.lt,fun i y hy j u hu=> ?_⟩⟩
 have hi:i=0:=by have:=(List.getElem?_eq_some_iff.1 hy).1;simpa using this
 subst hi
 simp at hy
 subst hy
 rw[show 0+0*3+j=j by omega,hc.cell]
 simpa [hcells] using hu
theorem take_more {α β:Type} {l:List α} {k:Nat} {x:α} (g:α→β) (hx:l[k]? =some x):(l.take (k+1)).map g=(l.take k).map g++ [g x]:=by rw[List.take_add_one,hx];simp
theorem heads_any {X:Dx} {fs:List Fd} {w:World} (h:Dev w X fs):
  Calls Tryz.prog 20 #[.agg #[.int .i64 X.cap,.int .i64 X.op,.int .i64 X.ac,.slice X.A X.n X.c]] w fun e w'=>∃A c,e= .returned (.slice A X.n c)∧OwnH w.heap.size w' A X.n c (fs.map headF)∧Below w.heap.size w w':=by
 have HA:=fun W (hW:Below w.heap.size w W)=>Lib.hid (all_any (h.at_.below hW) h.ok)
 have HD:=Lib.hid h
 have hn:=h.few
 have hfl:=Lib.hid h.len
 have L1:=Lib.hid ((Below.refl w.heap.size w).alloc (Nat.le_refl _) (.cells #[.int .i64 X.cap,.int .i64 X.op,.int .i64 X.ac,.slice X.A X.n X.c] 26))
 have B1:=Lib.hid (box_new w X)
 clear h
 go_enter Tryz.func20,Tryz.ntmps20
 go_upto_region 1 with fail
 generalize w.alloc (.cells #[.int .i64 X.cap,.int .i64 X.op,.int .i64 X.ac,.slice X.A X.n X.c] 26)=w1 at*
 have m0:w1.cell? ⟨w.heap.size,0,none⟩=some (.int .i64 X.cap):=Cells.cell B1.out 0
 have m1:w1.cell? ⟨w.heap.size,1,none⟩=some (.int .i64 X.op):=Cells.cell B1.out 1
 have m2:w1.cell? ⟨w.heap.size,2,none⟩=some (.int .i64 X.ac):=Cells.cell B1.out 2
 have m3:w1.cell? ⟨w.heap.size,3,none⟩=some (.slice X.A X.n X.c):=Cells.cell B1.out 3
 go_wp2_with (go_at_call 32;refine(HA w1 L1.out).out.mono ?_;rintro e w2 ⟨IA,IC,rfl,hO,hb⟩;have L2:=Lib.hid (L1.out.trans (hb.mono L1.out.size));have B2:=Lib.hid (Cells.below B1.out hb);have I2:=Lib.hid (Wire.gave_row hO (by rw[iota_len];omega)).1;clear hb hO)
 clear m0 m1 m2 m3
 go_loopw [3,5,6,10] (fun s _ _ i wr=>∃(k:Nat) (S:Option Addr) (m d:Nat),i= .int .i64 k∧s= .slice S m d∧m=k∧k≤X.n∧Hid (Below w2.heap.size w2 wr∧OwnH w2.heap.size wr S m d ((fs.take k).map headF))) (fun _ _ _ i _=>X.n-(intOf i).toNat)
 case atStart=>exact⟨0,none,0,0,rfl,rfl,rfl,by omega,Below.refl _ _,OwnS.Owns.nil _ _ _ _ _⟩
 case round=>
  obtain⟨k,S,m,d,rfl,rfl,hmk,hkn,hH⟩:=hrel
  have LW:=Lib.hid (L2.out.trans (hH.out.1.mono L2.out.size))
  by_cases hlt:k<X.n
  ·have hk1:(k:Int)<(X.n:Int):=by omega
   have hk0:(0:Int)≤(k:Int):=by omega
   obtain⟨v,f,hv,hf,hhf,hrow,hcap⟩:=HD.out.zone hlt
   obtain⟨bi,oi,eI,ci'⟩:=(I2.out.below hH.out.1).cell (iota_get hlt)
   subst eI
   have ci2:wr.cell? ⟨bi,oi+k,none⟩=some (.int .i64 (k:Int)):=ci'
   obtain⟨b,o,hA,hb,hc⟩:=HD.out.at_.row.elem hv
   have c0:wr.cell? ⟨b,o+k*3,none⟩=some (.int .i64 v.z.st):=hc wr (LW.out.block b hb) 0 _ rfl
   have c1:wr.cell? ⟨b,o+k*3+1,none⟩=some (.int .i64 v.z.fc):=hc wr (LW.out.block b hb) 1 _ rfl
   have c2:wr.cell? ⟨b,o+k*3+2,none⟩=some (.slice v.D v.z.data.length v.c):=hc wr (LW.out.block b hb) 2 _ rfl
   have m3:wr.cell? ⟨w.heap.size,3,none⟩=some (.slice (some ⟨b,o,none⟩) X.n X.c):=by rw[←hA];exact Cells.cell (Cells.below B2.out hH.out.1) 3
   have HZ:=Lib.hid (zone_any (hrow.below LW.out) (by omega) hhf)
   have HF:=Lib.hid hf
   have HMK:=Lib.hid hmk
   have hm64:m≤64:=by omega
   clear hv hf hhf hrow hcap hA hc hb ci' hmk
   go_upto_region 6 with(go_at_call 21;refine HZ.out.mono ?_;rintro e w3 ⟨zs,LA,LC,AA,AC,rfl,-,hb⟩;have L3:=Lib.hid (LW.out.trans (hb.mono LW.out.size));have K3:=Lib.hid (hH.out.1.trans (hb.mono hH.out.1.size));have O3:=Lib.hid (OwnS.Owns.below hH.out.2 hb);clear hb)
   have L4:=Lib.hid (L3.out.alloc L3.out.size (.cells #[.bool f.hd,.int .i64 f.h.host,.int .i64 f.h.epoch,.int .i64 f.h.seq,.slice LA f.rs.length LC,.slice AA f.rs.length AC,.int .i64 (f.used:Int)] 71))
   have K4:=Lib.hid (K3.out.alloc K3.out.size (.cells #[.bool f.hd,.int .i64 f.h.host,.int .i64 f.h.epoch,.int .i64 f.h.seq,.slice LA f.rs.length LC,.slice AA f.rs.length AC,.int .i64 (f.used:Int)] 71))
   have O4:=Lib.hid (OwnS.Owns.alloc O3.out (.cells #[.bool f.hd,.int .i64 f.h.host,.int .i64 f.h.epoch,.int .i64 f.h.seq,.slice LA f.rs.length LC,.slice AA f.rs.length AC,.int .i64 (f.used:Int)] 71))
   have F4:Hid (FBox (w3.alloc (.cells #[.bool f.hd,.int .i64 f.h.host,.int .i64 f.h.epoch,.int .i64 f.h.seq,.slice LA f.rs.length LC,.slice AA f.rs.length AC,.int .i64 (f.used:Int)] 71)) w3.heap.size f LA LC AA AC):=Cells.new _ _ _
   have G4:Hid (w2.heap.size≤w3.heap.size):=K3.out.size
   have G5:Hid (w.heap.size≤w3.heap.size):=L3.out.size
   generalize w3.alloc (.cells #[.bool f.hd,.int .i64 f.h.host,.int .i64 f.h.epoch,.int .i64 f.h.seq,.slice LA f.rs.length LC,.slice AA f.rs.length AC,.int .i64 (f.used:Int)] 71)=w4 at*
   clear c0 c1 c2 m3 ci2 HZ L3 K3 O3
   obtain⟨p0,p1,p2,p3,p4,p5,p6⟩:=seven_cells F4.out
   obtain⟨f0,f1,f2,f3,f4,f5,f6⟩:=seven_free F4.out
   have APP:∀(W:World) (x:Hdr),Hid (Below w2.heap.size w2 W)→Hid (OwnH w2.heap.size W S m d ((fs.take k).map headF))→Hid (Below w2.heap.size w2 (W.alloc (.cells #[.int .i64 x.host,.int .i64 x.epoch,.int .i64 x.seq] 68))∧OwnH w2.heap.size (W.alloc (.cells #[.int .i64 x.host,.int .i64 x.epoch,.int .i64 x.seq] 68)) S m d ((fs.take k).map headF)):=fun W x h1 h2=>⟨h1.out.alloc h1.out.size _,OwnS.Owns.alloc h2.out _⟩
   rcases hhd:f.hd with _|_
   ·have HE:Hid (headF f=⟨-1,0,0⟩):=by show _=_;unfold headF;rw[hhd];rfl
    rw[hhd] at p0
    go_upto_region 8 with fail
    have bt:Mov [w3.heap.size] w4 (((w4.setCell ⟨w3.heap.size,1,none⟩ (.int .i64 (-1))).setCell ⟨w3.heap.size,2,none⟩ (.int .i64 0)).setCell ⟨w3.heap.size,3,none⟩ (.int .i64 0)):=by
     have s:=fun(w:World) (i:Nat) (v:Value)=>Mov.set1 w (S:= [w3.heap.size]) (q:=w3.heap.size) (by simp) i v
     exact((s _ _ _).trans (s _ _ _) (fun _ h=> .inl h)).trans (s _ _ _) (fun _ h=> .inl h)
    have F5:Hid (Cells (((w4.setCell ⟨w3.heap.size,1,none⟩ (.int .i64 (-1))).setCell ⟨w3.heap.size,2,none⟩ (.int .i64 0)).setCell ⟨w3.heap.size,3,none⟩ (.int .i64 0)) w3.heap.size 71 #[.bool f.hd,.int .i64 (-1),.int .i64 0,.int .i64 0,.slice LA f.rs.length LC,.slice AA f.rs.length AC,.int .i64 (f.used:Int)]):=by
     show Cells _ _ _ _
     simpa using Cells.set_ (Cells.set_ (Cells.set_ F4.out 1 (.int .i64 (-1))) 2 (.int .i64 0)) 3 (.int .i64 0)
    have L5:=Lib.hid (L4.out.trans (bt.below L4.out.size (by intro x hx;rw[List.mem_singleton] at hx;rw[hx];exact G5.out)))
    have K5:=Lib.hid (K4.out.trans (bt.below K4.out.size (by intro x hx;rw[List.mem_singleton] at hx;rw[hx];exact G4.out)))
    have O5:=Lib.hid ((Chg.mov F4.out bt).owns O4.out (by decide))
    clear bt p0 p1 p2 p3 p4 p5 p6 f0 f1 f2 f3 f4 f5 f6 L4 K4 O4
    generalize((w4.setCell ⟨w3.heap.size,1,none⟩ (.int .i64 (-1))).setCell ⟨w3.heap.size,2,none⟩ (.int .i64 0)).setCell ⟨w3.heap.size,3,none⟩ (.int .i64 0)=w5 at*
    obtain⟨p0,p1,p2,p3,p4,p5,p6⟩:=seven_cells F5.out
    have A5:=APP w5 ⟨-1,0,0⟩ K5 O5
    have R5:=Lib.hid (row_hdr w5 ⟨-1,0,0⟩)
    have K6:=Lib.hid (K5.out.alloc K5.out.size (.cells #[.int .i64 (-1),.int .i64 0,.int .i64 0] 68))
    dsimp only at A5 R5
    go_wp2_with (at_builtin
                 refine OwnS.wpList_append fitH Tryz.underlying65 info_hdr rfl (by omega) rfl (.tmp 25) (.tmp 28) rfl rfl w2.heap.size (.slice S m d) m _ rfl A5.out.2 _ 1 1 [⟨-1,0,0⟩] rfl R5.out (by omega) A5.out.1.size ?_
                 intro A' c' w' h1 h2 h3
                 have O6:=Lib.hid h1
                 have K7:=Lib.hid (K6.out.grown h2 K6.out.size (fun q hq=>by have h:=(A5.out.2).1;exact(World.ownsRow.lt h q hq).1))
                 clear h1 h2 h3)
    go_roundw
    case rel=>exact⟨k+1,A',m+1,c',by go_num,rfl,by have:=HMK.out;omega,by omega,K7.out,by rw[take_more headF HF.out,HE.out];exact O6.out⟩
    case measure=>simp[intOf];omega
   ·have HE:Hid (headF f=f.h):=by show _=_;unfold headF;rw[hhd];rfl
    rw[hhd] at p0
    have A5:=APP w4 f.h K4 O4
    have R5:=Lib.hid (row_hdr w4 f.h)
    have K6:=Lib.hid (K4.out.alloc K4.out.size (.cells #[.int .i64 f.h.host,.int .i64 f.h.epoch,.int .i64 f.h.seq] 68))
    go_wp2_with (at_builtin
                 refine OwnS.wpList_append fitH Tryz.underlying65 info_hdr rfl (by omega) rfl (.tmp 25) (.tmp 28) rfl rfl w2.heap.size (.slice S m d) m _ rfl A5.out.2 _ 1 1 [f.h] rfl R5.out (by omega) A5.out.1.size ?_
                 intro A' c' w' h1 h2 h3
                 have O6:=Lib.hid h1
                 have K7:=Lib.hid (K6.out.grown h2 K6.out.size (fun q hq=>by have h:=(A5.out.2).1;exact(World.ownsRow.lt h q hq).1))
                 clear h1 h2 h3)
    go_roundw
    case rel=>exact⟨k+1,A',m+1,c',by go_num,rfl,by have:=HMK.out;omega,by omega,K7.out,by rw[take_more headF HF.out,HE.out];exact O6.out⟩
    case measure=>simp[intOf];omega
  ·have hkk:k=X.n:=by omega
   have HK:Hid ((fs.take k).map headF=fs.map headF):=by show _=_;rw[List.take_of_length_le (by have:=hfl.out;omega)]
   have HKK:=Lib.hid (hmk.trans hkk)
   clear hkk hmk
   go_wp2_with fail
   go_ret
   refine⟨S,d,by rw[HKK.out];rfl,?_,LW.out⟩
   have:=hH.out.2
   rw[HK.out,HKK.out] at this
   exact OwnS.Owns.mono this L2.out.size
end Rp
end
section
open Go.RowKit Mem Zns
namespace Rp
open Ext (MayX xv LBox lookP rangeB rangeB_iff Full extB blkB RowL OwnsL tell Ok)
open Zon (Zn Zv cellsZ B8)
theorem run_makeB (w:World) (n:Nat) (hn:n≤1000000):(Instr.makeSlice 37 (.int .i64 (n:Int)) (.int .i64 (n:Int))).run Tryz.prog w= .ok (.slice (some ⟨w.heap.size,0,none⟩) n n) (w.alloc (.cells (madeCells #[.int .u8 0] n) 5)):=by
 obtain⟨i,hi,hz0,hz1,hz2⟩:=info_parts info_byte
 have h:=run_make (P:=Tryz.prog) w 37 5 i _ Tryz.underlying37 hi hz0 .i64 .i64 n n (by omega) (by omega) (by rw[hz2];omega) (by omega)
 rw[hz1,Nat.mul_one] at h
 exact h
theorem madeB_own (w:World) (n:Nat) (hn:n≤1000000):Mem.Owns cb 5 w.heap.size (w.alloc (.cells (madeCells #[.int .u8 0] n) 5)) (.slice (some ⟨w.heap.size,0,none⟩) n n) n (List.replicate n 0#8):=by
 have h:=Mem.Owns.made cb 5 w (List.replicate n 0#8) (by rw[List.length_replicate];unfold maxLen;omega) (Nat.le_refl _)
 have e:((List.replicate n 0#8).map cb).toArray=madeCells #[.int .u8 0] n:=by
  apply Array.toList_inj.1
  apply List.ext_getElem?
  intro i
  unfold madeCells
  simp only[Array.getElem?_toList,Array.getElem?_map,Array.getElem?_range,List.getElem?_map,List.getElem?_replicate]
  split<;>simp[cb,u,Nat.mod_one]
 rw[e,List.length_replicate] at h
 exact h
theorem madeB (w:World) (n:Nat) (hn:n≤1000000):Row cb (w.alloc (.cells (madeCells #[.int .u8 0] n) 5)) (some ⟨w.heap.size,0,none⟩) n n (List.replicate n 0#8):=by
 have h:=(Wire.gave_row (madeB_own w n hn) (by rw[List.length_replicate];omega)).1
 simpa using h
def datX (X:Dx) (z:Int):List B8:=match X.xs[z.toNat]? with
 |some v=>v.z.data
 |none=> []
def InX (X:Dx) (x:Ext.Ex):Prop:=x.zone= -1∨∃(k:Nat) (v:Zv),x.zone=(k:Int)∧X.xs[k]? =some v∧x.off+16*x.n≤(v.z.data.length:Int)
theorem bytesOf_any {X:Dx} {w:World} (h:DevAt w X) {x:Ext.Ex} (hx:MayX x) (hn:x.n≤4096) (hi:InX X x) (hl:∀v∈X.xs,v.z.data.length≤65536):
  Calls Tryz.prog 38 #[dxv X,xv x] w fun e w'=>∃A m c,e= .returned (.tuple #[.slice A m c,.bool true])∧Hid (Row cb w' A m c (extB (datX X) x)∧m≤65536)∧Below w.heap.size w w':=by
 obtain⟨n1,hn1⟩:∃n1:Nat,x.n=(n1:Int):=⟨x.n.toNat,by have:=hx.2.1;omega⟩
 have hn2:n1≤4096:=by omega
 obtain⟨N,hN⟩:∃N:Nat,N=16*n1:=⟨_,rfl⟩
 have hwr:IntKind.i64.wrap (x.n*16)=(N:Int):=by rw[Ext.wrap_small (by omega) (by omega)];omega
 have L1:=Lib.hid ((Below.refl w.heap.size w).alloc (Nat.le_refl _) (.cells #[.int .i64 X.cap,.int .i64 X.op,.int .i64 X.ac,.slice X.A X.n X.c] 26))
 have B1:=Lib.hid (box_new w X)
 have HH:=Lib.hid h
 have HX:=Lib.hid hx
 have HI:=Lib.hid hi
 have HL:=Lib.hid hl
 have HN:=Lib.hid hn1
 have HM:=Lib.hid hN
 clear h hx hi hl hn1 hN
 unfold dxv
 go_enter Tryz.func38,Tryz.ntmps38
 go_upto_region 1 with fail
 have L2:=Lib.hid (L1.out.alloc L1.out.size (.cells #[.int .i64 x.lba,.int .i64 x.n,.int .i64 x.ver,.int .i64 x.zone,.int .i64 x.off] 60))
 have B2:=Lib.hid (Box.Cells.below B1.out ((Below.refl _ _).alloc (Nat.le_refl _) (.cells #[.int .i64 x.lba,.int .i64 x.n,.int .i64 x.ver,.int .i64 x.zone,.int .i64 x.off] 60)))
 have X2:Hid (LBox ((w.alloc (.cells #[.int .i64 X.cap,.int .i64 X.op,.int .i64 X.ac,.slice X.A X.n X.c] 26)).alloc (.cells #[.int .i64 x.lba,.int .i64 x.n,.int .i64 x.ver,.int .i64 x.zone,.int .i64 x.off] 60)) (w.heap.size+1) x):=by
  have:=Ext.Cells.new (w.alloc (.cells #[.int .i64 X.cap,.int .i64 X.op,.int .i64 X.ac,.slice X.A X.n X.c] 26)) #[.int .i64 x.lba,.int .i64 x.n,.int .i64 x.ver,.int .i64 x.zone,.int .i64 x.off] 60
  rw[World.size_alloc] at this
  exact this
 go_simp
 generalize(w.alloc (.cells #[.int .i64 X.cap,.int .i64 X.op,.int .i64 X.ac,.slice X.A X.n X.c] 26)).alloc (.cells #[.int .i64 x.lba,.int .i64 x.n,.int .i64 x.ver,.int .i64 x.zone,.int .i64 x.off] 60)=w2 at*
 clear L1 B1
 have p3:w2.cell? ⟨w.heap.size,3,none⟩=some (.slice X.A X.n X.c):=Box.Cells.cell B2.out 3
 obtain⟨n0,n1',n2,n3,n4⟩:=LBox.cells X2.out
 rw[HN.out] at n1' hwr
 go_upto_region 2 with fail
 rcases HI.out with hz|⟨k,v,hz,hv,hle⟩
 ·have HE:Hid (extB (datX X) x=List.replicate (N) 0#8):=by
    show _=_
    unfold extB
    rw[if_pos hz,HN.out,Int.toNat_natCast,HM.out]
  rw[hz] at n3
  have hN:=HM.out
  have hm6:N≤65536:=by omega
  have hmk:=run_makeB w2 (N) (by omega)
  have M3:=Lib.hid (madeB w2 (N) (by omega))
  have L3:=Lib.hid (L2.out.alloc L2.out.size (.cells (madeCells #[.int .u8 0] (N)) 5))
  clear HH HX HI HL HN hz HM hN p3 B2 X2 n0 n2 n4
  go_wp2_with fail
  go_ret2
  rw[HE.out]
  exact⟨_,_,_,rfl,⟨M3.out,hm6⟩,L3.out⟩
 ·have hkn:k<X.n:=by
    have:=HH.out.row.len
    have:=(List.getElem?_eq_some_iff.1 hv).1
    omega
  obtain⟨b,o,hA,hb,hc⟩:=HH.out.row.elem hv
  have c2:w2.cell? ⟨b,o+k*3+2,none⟩=some (.slice v.D v.z.data.length v.c):=hc w2 (L2.out.block b hb) 2 _ rfl
  have hrow:=(HH.out.data v (List.mem_of_getElem? hv)).below L2.out
  have hn1:=HN.out
  have hN:=HM.out
  have hdl:=HL.out v (List.mem_of_getElem? hv)
  have hcap:=hrow.cap
  have ho:=HX.out.2.2.2.2
  obtain⟨o1,ho1⟩:∃o1:Nat,x.off=(o1:Int):=⟨x.off.toNat,by omega⟩
  have HE:Hid (extB (datX X) x=(v.z.data.drop o1).take (o1+N-o1)):=by
   show _=_
   unfold extB datX
   rw[if_neg (by omega),hz,Int.toNat_natCast,hv,ho1,Int.toNat_natCast,HN.out,Int.toNat_natCast,←HM.out,Nat.add_sub_cancel_left]
  have HR:=Lib.hid (hrow.mid (k:=o1) (j:=o1+N) (by omega) (by omega))
  have hsl:=run_mid v.D v.z.data.length v.c o1 (o1+N) (by omega) (by omega)
  have hw2:IntKind.i64.wrap ((o1:Int)+((N:Nat):Int))=((o1+N:Nat):Int):=by rw[Ext.wrap_small (by omega) (by omega)];omega
  rw[hz] at n3
  rw[ho1] at n4
  rw[hA] at p3
  have g1:(k:Int)<(X.n:Int):=by omega
  have g0:(0:Int)≤(k:Int):=by omega
  have g2:((o1+N:Nat):Int)≤(v.z.data.length:Int):=by omega
  have g3:¬(X.n:Int)≤(k:Int):=by omega
  have g4:¬(v.z.data.length:Int)<((o1+N:Nat):Int):=by omega
  have g5:((k:Int)== -1)=false:=by simp
  have hm6:o1+N-o1≤65536:=by omega
  clear HH HX HI HL HN hn1 hz HM hN B2 X2 n0 n2 hA hb hc hrow hdl hcap ho ho1 hle hv hn hn2
  generalize v.z.data.length=dn at*
  generalize o1+N=e1 at*
  go_upto_region 4 with fail
  go_big_quiet (fail)
  have L3:Hid (Below w.heap.size w (w2.drewN nq)):=below_drewN L2.out nq
  have R3:=Lib.hid (HR.out.below (below_drewN (Below.refl _ w2) nq))
  have c2':(w2.drewN nq).cell? ⟨b,o+k*3+2,none⟩=some (.slice v.D dn v.c):=c2
  have n3':(w2.drewN nq).cell? ⟨w.heap.size+1,3,none⟩=some (.int .i64 (k:Int)):=n3
  have n4':(w2.drewN nq).cell? ⟨w.heap.size+1,4,none⟩=some (.int .i64 (o1:Int)):=n4
  have p3':(w2.drewN nq).cell? ⟨w.heap.size,3,none⟩=some (.slice (some ⟨b,o,none⟩) X.n X.c):=p3
  clear L2 HR c2 n3 n4 p3 n1'
  generalize w2.drewN nq=w3 at*
  go_upto_region 6 with fail
  go_big_quiet (fail)
  have L4:Hid (Below w.heap.size w (w3.drewN nq)):=below_drewN L3.out nq
  have R4:=Lib.hid (R3.out.below (below_drewN (Below.refl _ w3) nq))
  generalize w3.drewN nq=w4 at*
  go_wp2_with fail
  go_ret2
  rw[HE.out]
  exact⟨_,_,_,rfl,⟨R4.out,hm6⟩,L4.out⟩
theorem full_len {f t:Int}:∀ {l:List Ext.Ex},Full f t l→(l.length:Int)≤t-f∧∀x∈l,MayX x∧x.n≤t-f
 | [],h=>by
   have h1:f=t:=h
   exact⟨by simp;omega,by simp⟩
 |x::r,h=>by
  obtain⟨h1,h2,h3⟩:=h
  have hl:=Ext.en_lt h2
  have hle:=h3.le
  have⟨a,b⟩:=full_len h3
  have he:x.en=x.lba+x.n:=rfl
  have:=h2.2.1
  refine⟨by rw[List.length_cons];omega,fun y hy=> ?_⟩
  rcases List.mem_cons.1 hy with rfl|q
  ·exact⟨h2,by omega⟩
  ·exact⟨(b y q).1,by have:=(b y q).2;omega⟩
theorem fm_more {α β:Type} {l:List α} {k:Nat} {x:α} (g:α→List β) (hx:l[k]? =some x):(l.take (k+1)).flatMap g=(l.take k).flatMap g++g x:=by rw[List.take_add_one,hx];simp
abbrev OwnB (base:Nat) (w:World) (A:Option Addr) (n c:Nat) (l:List B8):Prop:=Mem.Owns cb 5 base w (.slice A n c) n l
theorem bytes_in {X:Dx} {w:World} (h:DevAt w X) (hX:∀v∈X.xs,v.z.data.length≤65536) {A:Option Addr} {n c:Nat} {l:List Ext.Ex} (hA:RowL w A n c l) (hl:Ok 0 l) (hn:n≤100000) {a k:Int} (hr:rangeB a k=true) (hk:k≤4096) (hi:∀x∈lookP l a k,InX X x):
  Calls Tryz.prog 13 #[dxv X,.slice A n c,.int .i64 a,.int .i64 k] w fun e w'=>∃B m d,e= .returned (.tuple #[.slice B m d,.int .i64 0])∧OwnB w.heap.size w' B m d ((lookP l a k).flatMap (extB (datX X)))∧Below w.heap.size w w':=by
 have hrr:=rangeB_iff.1 hr
 have HF:=full_len (Ext.look_full hl hr)
 have HLK:=fun W (hW:Below w.heap.size w W)=>Lib.hid (Vm.look_any (hA.below hW) hl hn hr)
 have HD:=Lib.hid h
 have HXX:=Lib.hid hX
 have HI:=Lib.hid hi
 have HP:Hid (((lookP l a k).length:Int)≤4096∧∀x∈lookP l a k,MayX x∧x.n≤4096):=⟨by have:=HF.1;omega,fun x hx=>⟨(HF.2 x hx).1,by have:=(HF.2 x hx).2;omega⟩⟩
 have hkk:¬(4096:Int)<k:=by omega
 have L1:=Lib.hid ((Below.refl w.heap.size w).alloc (Nat.le_refl _) (.cells #[.int .i64 X.cap,.int .i64 X.op,.int .i64 X.ac,.slice X.A X.n X.c] 26))
 have B1:=Lib.hid (box_new w X)
 clear h hX hA hl hr hi hrr HF hk hn
 generalize lookP l a k=L at*
 unfold dxv
 go_enter Tryz.func13,Tryz.ntmps13
 go_upto_region 1 with fail
 generalize w.alloc (.cells #[.int .i64 X.cap,.int .i64 X.op,.int .i64 X.ac,.slice X.A X.n X.c] 26)=w1 at*
 go_wp2_with (go_at_call 37;refine(HLK w1 L1.out).out.mono ?_;rintro e w2 ⟨⟨RA,rn,rc,rfl,hO⟩,hb⟩;have L2:=Lib.hid (L1.out.trans (hb.mono L1.out.size));have B2:=Lib.hid (Box.Cells.below B1.out hb);have R2:=Lib.hid (OwnsL.row hO (by have:=hO.2;have:=HP.out.1;omega));clear hO hb)
 have hrn:rn=L.length:=R2.out.len.symm
 have hrn2:rn≤4096:=by have:=HP.out.1;omega
 clear hrn
 go_loopw [12,14,15,16,33] (fun s _ _ _ i wr=>∃(q:Nat) (S:Option Addr) (m d:Nat),i= .int .i64 q∧s= .slice S m d∧q≤rn∧Hid (m≤65536*q∧Below w2.heap.size w2 wr∧OwnB w2.heap.size wr S m d ((L.take q).flatMap (extB (datX X))))) (fun _ _ _ _ i _=>rn-(intOf i).toNat)
 case atStart=>exact⟨0,none,0,0,rfl,rfl,by omega,by omega,Below.refl _ _,Mem.Owns.nil _ _ _ _⟩
 case round=>
  obtain⟨q,S,m,d,rfl,rfl,hq,hH⟩:=hrel
  have LW:=Lib.hid (L2.out.trans (hH.out.2.1.mono L2.out.size))
  by_cases hlt:q<rn
  ·obtain⟨y,hy⟩:=R2.out.get hlt
   obtain⟨b,o,hA,d0,d1,d2,d3,d4⟩:=Ext.RowS.ext_at (R2.out.below hH.out.2.1) hy
   subst hA
   have hk0:(0:Int)≤(q:Int):=by omega
   have hkn:(q:Int)<(rn:Int):=by omega
   have hmem:=List.mem_of_getElem? hy
   have HB:=fun W (hW:Below w.heap.size w W)=>Lib.hid (bytesOf_any (HD.out.below hW) (HP.out.2 y hmem).1 (HP.out.2 y hmem).2 (HI.out y hmem) HXX.out)
   have HY:=Lib.hid hy
   unfold dxv xv at HB
   have L3:=Lib.hid (LW.out.alloc LW.out.size (.cells #[.int .i64 y.lba,.int .i64 y.n,.int .i64 y.ver,.int .i64 y.zone,.int .i64 y.off] 60))
   have K3:=Lib.hid (hH.out.2.1.alloc hH.out.2.1.size (.cells #[.int .i64 y.lba,.int .i64 y.n,.int .i64 y.ver,.int .i64 y.zone,.int .i64 y.off] 60))
   have O3:=Lib.hid (Mem.Owns.alloc hH.out.2.2 (.cells #[.int .i64 y.lba,.int .i64 y.n,.int .i64 y.ver,.int .i64 y.zone,.int .i64 y.off] 60))
   have B3:Hid (LBox (wr.alloc (.cells #[.int .i64 y.lba,.int .i64 y.n,.int .i64 y.ver,.int .i64 y.zone,.int .i64 y.off] 60)) wr.heap.size y):=Ext.Cells.new _ _ _
   have M3:=Lib.hid (Box.Cells.below B2.out K3.out)
   have HMQ:=Lib.hid (show m≤65536*q from hH.out.1)
   clear hy hmem
   go_upto_region 10 with fail
   generalize wr.alloc (.cells #[.int .i64 y.lba,.int .i64 y.n,.int .i64 y.ver,.int .i64 y.zone,.int .i64 y.off] 60)=w3 at*
   obtain⟨n0,n1,n2,n3,n4⟩:=LBox.cells B3.out
   have m0:w3.cell? ⟨w.heap.size,0,none⟩=some (.int .i64 X.cap):=Box.Cells.cell M3.out 0
   have m1:w3.cell? ⟨w.heap.size,1,none⟩=some (.int .i64 X.op):=Box.Cells.cell M3.out 1
   have m2:w3.cell? ⟨w.heap.size,2,none⟩=some (.int .i64 X.ac):=Box.Cells.cell M3.out 2
   have m3:w3.cell? ⟨w.heap.size,3,none⟩=some (.slice X.A X.n X.c):=Box.Cells.cell M3.out 3
   clear d0 d1 d2 d3 d4 hH LW
   go_upto_region 13 with(go_at_call 38;refine(HB w3 L3.out).out.mono ?_;rintro e w4 ⟨YA,ym,yc,rfl,hR,hb⟩;have L4:=Lib.hid (L3.out.trans (hb.mono L3.out.size));have K4:=Lib.hid (K3.out.trans (hb.mono K3.out.size));have O4:=Lib.hid (Mem.Owns.below O3.out hb);clear hb)
   clear n0 n1 n2 n3 n4 m0 m1 m2 m3
   have hsz:m≤268435456∧ym≤65536:=by have:=HMQ.out;have:=hR.out.2;exact⟨by omega,by omega⟩
   go_wp2_with (at_builtin
                refine wpList_append_row cb_one Tryz.underlying37 info_byte rfl rfl (.tmp 45) (.tmp 46) rfl rfl w2.heap.size (.slice S m d) m _ rfl O4.out YA ym yc _ rfl hR.out.1 (by omega) (by omega) K4.out.size ?_
                intro A' c' w5 h1 h2
                have O5:=Lib.hid h1
                have K5:=Lib.hid (K4.out.trans h2)
                clear h1 h2)
   go_roundw
   case rel=>exact⟨q+1,A',m+ym,c',by go_num,rfl,by omega,by have:=HMQ.out;have:=hR.out.2;omega,K5.out,by rw[fm_more _ HY.out];exact O5.out⟩
   case measure=>simp[intOf];omega
  ·have hqq:q=rn:=by omega
   subst hqq
   go_wp2_with fail
   go_ret2
   have e:L.take q=L:=List.take_of_length_le (by have:=R2.out.len;omega)
   refine⟨S,m,d,rfl,?_,LW.out⟩
   have h:=hH.out.2.2
   rw[e] at h
   exact Mem.Owns.mono h L2.out.size
end Rp
end
section
open Go.RowKit Mem Box
namespace Rp
structure KpC (S:List Nat) (T:List TypeId) (N:Nat) (W W':World):Prop where
 size:W.heap.size≤W'.heap.size
 cells:∀(k:Nat) (cs:Array Value) (t:TypeId) (fr:Nat × Nat),k∉S→(k<N∨t∉T)→W.heap[k]? =some (.cells cs t fr)→W'.heap[k]? =some (.cells cs t fr)
def Safe (S:List Nat) (T:List TypeId) (N:Nat) (W:World) (q:Nat):Prop:=q∉S∧∃cs t fr,W.heap[q]? =some (.cells cs t fr)∧(q<N∨t∉T)
section
variable {S:List Nat} {T:List TypeId} {N:Nat} {W W' W'':World}
theorem KpC.refl (S:List Nat) (T:List TypeId) (N:Nat) (W:World):KpC S T N W W:=⟨Nat.le_refl _,fun _ _ _ _ _ _ h=>h⟩
theorem KpC.trans (h:KpC S T N W W') (k:KpC S T N W' W''):KpC S T N W W'':=⟨Nat.le_trans h.size k.size,fun q cs t fr hq ht hc=>k.cells q cs t fr hq ht (h.cells q cs t fr hq ht hc)⟩
theorem KpC.of_below (S:List Nat) (T:List TypeId) (N:Nat) (h:Below W.heap.size W W'):KpC S T N W W':=⟨h.size,fun k cs t fr _ _ hc=>(h.block k (Array.getElem?_eq_some_iff.1 hc).1).trans hc⟩
theorem KpC.of_mov {M:List Nat} (h:Mov M W W') (hT:∀x∈M,x∈S):KpC S T N W W':=⟨h.size,fun k cs t fr hk _ hc=>(h.block k (Array.getElem?_eq_some_iff.1 hc).1 (fun e=>hk (hT k e))).trans hc⟩
theorem KpC.of_chg {t:TypeId} {r:Option Nat} (h:Chg t r W W') (ht:t∈T) (hr:∀q,r=some q→N≤q):KpC S T N W W':=by
 refine⟨h.by_.size,fun k cs u fr _ hu hc=> ?_⟩
 refine(h.by_.block k (Array.getElem?_eq_some_iff.1 hc).1 (fun e=> ?_)).trans hc
 obtain⟨cur,hcur⟩:=h.is_ k e.symm
 have h1:W.heap[k]? =some (.cells cur t (0,0)):=hcur
 rw[h1] at hc
 injection hc with hc
 injection hc with _ h2
 have:=hr k e.symm
 rcases hu with hu|hu
 ·omega
 ·exact hu (h2▸ht)
theorem KpC.put {w:World} {l:Nat} {o o':Obj} (_hl:w.heap.size≤l) (h:W.heap[l]? =some o) (hc:o.isCells=false):KpC S T N W (W.putObj l o'):=by
 refine⟨(grownBy_putObj' W l o').size,fun k cs t fr _ _ hk=> ?_⟩
 have hne:some k≠some l:=fun e=>by
  injection e with e
  subst e
  rw[h] at hk
  injection hk with hk
  subst hk
  cases hc
 exact((grownBy_putObj' W l o').block k (Array.getElem?_eq_some_iff.1 hk).1 hne).trans hk
theorem cell_obj {q i:Nat} {v:Value} (h:W.cell? ⟨q,i,none⟩=some v):∃cs t fr,W.heap[q]? =some (.cells cs t fr):=by
 rcases hh:W.heap[q]? with _|o
 ·simp[World.cell?,hh] at h
 ·cases o<;>simp[World.cell?,hh] at h ⊢
theorem KpC.same (h:KpC S T N W W') {q:Nat} (hq:Safe S T N W q):W'.heap[q]? =W.heap[q]? :=by
 obtain⟨h1,cs,t,fr,h2,h3⟩:=hq
 rw[h2]
 exact h.cells q cs t fr h1 h3 h2
theorem KpC.safe (h:KpC S T N W W') {q:Nat} (hq:Safe S T N W q):Safe S T N W' q:=by
 have e:=h.same hq
 obtain⟨h1,cs,t,fr,h2,h3⟩:=hq
 exact⟨h1,cs,t,fr,e.trans h2,h3⟩
theorem KpC.cell (h:KpC S T N W W') {q i:Nat} {v:Value} (hq:Safe S T N W q) (hc:W.cell? ⟨q,i,none⟩=some v):W'.cell? ⟨q,i,none⟩=some v:=by
 rw[World.cell?_of_block (a:=⟨q,i,none⟩) (h.same hq)]
 exact hc
theorem KpC.box (h:KpC S T N W W') {q:Nat} {t:TypeId} {cs:Array Value} (hq:q∉S) (ht:q<N∨t∉T) (hc:Cells W q t cs):Cells W' q t cs:=h.cells q _ _ _ hq ht hc
def OutS (S:List Nat) (T:List TypeId) (N:Nat) (W:World) (A:Option Addr) (n:Nat):Prop:=∀q o,A=some ⟨q,o,none⟩→0<n→Safe S T N W q
theorem OutS.kp {A:Option Addr} {n:Nat} (h:OutS S T N W A n) (k:KpC S T N W W'):OutS S T N W' A n:=fun q o e h0=>k.safe (h q o e h0)
theorem row_kp {α:Type} {f:α→Value} {A:Option Addr} {n c:Nat} {l:List α} (h:Row f W A n c l) (k:KpC S T N W W') (hs:OutS S T N W A n):Row f W' A n c l:=by
 refine⟨h.len,h.cap,h.big,fun h0=> ?_⟩
 obtain⟨b,o,e,hb,hc⟩:=h.at_ h0
 exact⟨b,o,e,Nat.lt_of_lt_of_le hb k.size,fun i x hx=>k.cell (hs b o e h0) (hc i x hx)⟩
theorem rowS_kp {α:Type} {cells:α→List Value} {m:Nat} {A:Option Addr} {n c:Nat} {l:List α} (h:RowS cells m W A n c l) (k:KpC S T N W W') (hs:OutS S T N W A n):RowS cells m W' A n c l:=by
 refine⟨h.len,h.cap,h.big,fun h0=> ?_⟩
 obtain⟨b,o,e,hb,hc⟩:=h.at_ h0
 exact⟨b,o,e,Nat.lt_of_lt_of_le hb k.size,fun i x hx j u hu=>k.cell (hs b o e h0) (hc i x hx j u hu)⟩
theorem out_row {α:Type} {f:α→Value} {A:Option Addr} {n c M:Nat} {l:List α} (h:Row f W A n c l) (hb:Below W.heap.size W W') (hM:W.heap.size≤M) (hS:∀q∈S,M≤q) (hN:W.heap.size≤N):OutS S T N W' A n:=fun q o e h0=>by
 obtain⟨b,o',e',hl,hc⟩:=h.at_ h0
 rw[e] at e'
 injection e' with e'
 injection e' with e1 e2
 subst e1 e2
 obtain⟨x,hx⟩:∃x,l[0]? =some x:=by
  have:=h.len
  exact⟨_,List.getElem?_eq_getElem (by omega)⟩
 obtain⟨cs,t,fr,ho⟩:=cell_obj (hc 0 x hx)
 exact⟨fun hq=>by have:=hS q hq;omega,cs,t,fr,(hb.block q hl).trans ho,.inl (by omega)⟩
theorem out_rowS {α:Type} {cells:α→List Value} {m:Nat} {A:Option Addr} {n c M:Nat} {l:List α} (h:RowS cells m W A n c l) (hm:∀x,∃v,(cells x)[0]? =some v) (hb:Below W.heap.size W W') (hM:W.heap.size≤M) (hS:∀q∈S,M≤q) (hN:W.heap.size≤N):OutS S T N W' A n:=fun q o e h0=>by
 obtain⟨b,o',e',hl,hc⟩:=h.at_ h0
 rw[e] at e'
 injection e' with e'
 injection e' with e1 e2
 subst e1 e2
 obtain⟨x,hx⟩:∃x,l[0]? =some x:=by
  have:=h.len
  exact⟨_,List.getElem?_eq_getElem (by omega)⟩
 obtain⟨v,hv⟩:=hm x
 obtain⟨cs,t,fr,ho⟩:=cell_obj (hc 0 x hx 0 v hv)
 exact⟨fun hq=>by have:=hS q hq;omega,cs,t,fr,(hb.block q hl).trans ho,.inl (by omega)⟩
theorem out_own {base k n c m:Nat} {e:TypeId} {A:Option Addr} {l:List Value} (h:W.ownsRow base e k (.slice A n c) m l) (hS:∀q∈S,q<base) (he:e∉T∨W.heap.size≤N):OutS S T N W A n:=fun q o e' _=>by
 rcases h.2 with⟨h1,-⟩|⟨g,cap,cur,h1,hb,hg,-⟩
 ·injection h1 with h1
  rw[e'] at h1
  cases h1
 ·injection h1 with h1
  rw[e'] at h1
  injection h1 with h1
  injection h1 with h1
  subst h1
  refine⟨fun hq=>by have:=hS q hq;omega,cur,e,(0,0),hg,?_⟩
  rcases he with he|he
  ·exact .inr he
  ·exact .inl (Nat.lt_of_lt_of_le (Array.getElem?_eq_some_iff.1 hg).1 he)
theorem abides_below {β:Type} {B:Nat} {J:β→World→Prop} (h:AbidesFrom B J) {s:β} (hs:J s W) (hb:Below W.heap.size W W'):J s W':=
 h s W W' none hs ⟨hb.os,hb.tape,hb.output,hb.size,fun k hk _=>hb.block k hk⟩ (fun r e=>by cases e)
end
end Rp
end
section
open Go.RowKit Mem Ext
namespace Vm
open Seg (Hdr Rc Rv)
open Pk (RBox rvV sevenC seven_cells)
theorem told_any {g q1 q2:Nat} {y:Rv} {z o:Int} {w:World} (B:RBox w g y) (h1:w.cell? ⟨q1,0,none⟩=some (.int .i64 z)) (h2:w.cell? ⟨q2,0,none⟩=some (.int .i64 o)):
  Calls Tryz.prog 92 #[.pointer (some ⟨g,0,none⟩),.pointer (some ⟨q1,0,none⟩),.pointer (some ⟨q2,0,none⟩)] w fun e w'=>e= .returned (.tuple #[.slice (some ⟨w.heap.size,0,none⟩) 1 1,.int .i64 0])∧w'=w.alloc (.cells #[.int .i64 y.r.lba,.int .i64 y.r.n,.int .i64 y.r.ver,.int .i64 z,.int .i64 o] 60):=by
 obtain⟨k0,k1,k2,k3,k4,k5,k6⟩:=seven_cells B
 clear B
 go_enter Tryz.func92,Tryz.ntmps92
 go_wp2_with fail
 go_ret2
 exact⟨rfl,rfl⟩
theorem clos_any (g:Nat) (z o:Int) (w:World):
  Calls Tryz.prog 91 #[.int .i64 z,.int .i64 o,.pointer (some ⟨g,0,none⟩)] w fun e w'=>e= .returned (.func (.func 92) #[] #[.pointer (some ⟨g,0,none⟩),.pointer (some ⟨w.heap.size,0,none⟩),.pointer (some ⟨w.heap.size+1,0,none⟩)])∧w'=(w.alloc (.cells #[.int .i64 z] 3)).alloc (.cells #[.int .i64 o] 3):=by
 have hmf:∀(fn:Fn) (first cap:Array Value) (w:World),(Instr.makeFunc fn first cap).run Tryz.prog w= .ok (.func fn first cap) w:=fun _ _ _ _=>rfl
 go_enter Tryz.func91,Tryz.ntmps91
 go_wp2_with fail
 go_ret
 exact⟨by simp,rfl⟩
end Vm
end
section
open Go
namespace Inv
variable {P:Program} {ops:Array Oper} {Q:Exit→Act→World→Prop} {md:Region.Mode}
def left (listed:Array Bool):Nat:=listed.toList.countP (!·)
theorem count_set:∀(l:List Bool) (i:Nat),l[i]? =some false→(l.set i true).countP (!·)+1=l.countP (!·)
 | [],i,h=>by simp at h
 |b::l,0,h=>by
  simp at h
  subst h
  simp
 |b::l,i+1,h=>by
  have ih:=count_set l i (by simpa using h)
  simp only[List.set_cons_succ,List.countP_cons]
  omega
theorem left_set {listed:Array Bool} {i:Nat} (h:listed.getD i true=false):left (listed.setIfInBounds i true)+1=left listed:=by
 unfold left
 rw[Array.toList_setIfInBounds]
 refine count_set _ _ ?_
 rw[Array.getElem?_toList]
 rcases Nat.lt_or_ge i listed.size with h1|h1
 ·rw[Array.getElem?_eq_getElem h1]
  simp[Array.getD,h1] at h
  rw[h]
 ·simp[Array.getD,Nat.not_lt.2 h1] at h
theorem left_zero {listed:Array Bool} (h:left listed=0) (i:Nat):listed.getD i true=true:=by
 unfold left at h
 rcases Nat.lt_or_ge i listed.size with h1|h1
 ·have:=(List.countP_eq_zero.1 h) listed[i] (by simp)
  simp[Array.getD,h1]
  simpa using this
 ·simp[Array.getD,Nat.not_lt.2 h1]
theorem all_of_ready {listed:Array Bool} (hsz:listed.size=ops.size) (hord:∀(j:Nat) (o:Oper),ops[j]? =some o→∀e∈o.after,e.on<j) (h:Region.ready md ops listed= []):∀i,listed.getD i true=true:=by
 intro i
 induction i using Nat.strongRecOn with
 |ind i ih=>
  rcases hb:listed.getD i true with _|_
  ·exfalso
   have hi:i<ops.size:=by
    rw[←hsz]
    rcases Nat.lt_or_ge i listed.size with h1|h1
    ·exact h1
    ·simp[Array.getD,Nat.not_lt.2 h1] at hb
   have:i∈Region.ready md ops listed:=by
    rw[mem_ready]
    refine⟨hb,ops[i],Array.getElem?_eq_getElem hi,fun e he _=> ?_⟩
    have hlt:=hord i _ (Array.getElem?_eq_getElem hi) e he
    have:=ih e.on hlt
    have h2:e.on<listed.size:=by omega
    simp[Array.getD,h2] at this ⊢
    exact this
   rw[h] at this
   cases this
  ·rfl
theorem wpAny_inv (J:Array Bool→Act→World→Prop) (hord:∀(j:Nat) (o:Oper),ops[j]? =some o→∀e∈o.after,e.on<j)
  (hstep:∀(listed:Array Bool) (a:Act) (w:World) (i:Nat),listed.size=ops.size→i∈Region.ready md ops listed→J listed a w→wpOp P ops Q i (fun a' w'=>J (listed.setIfInBounds i true) a' w') a w)
  (hend:∀(listed:Array Bool) (a:Act) (w:World),listed.size=ops.size→(∀i,listed.getD i true=true)→J listed a w→Q .normal a w):
  ∀(fuel:Nat) (listed:Array Bool) (a:Act) (w:World),listed.size=ops.size→left listed≤fuel→J listed a w→wpAny P md ops Q fuel listed a w
 |0,listed,a,w,hsz,hl,hJ=>by
  have hall:=left_zero (listed:=listed) (by omega)
  refine⟨?_,hend listed a w hsz hall hJ⟩
  rcases hr:Region.ready md ops listed with _|⟨j,r⟩
  ·rfl
  ·have:j∈Region.ready md ops listed:=by rw[hr];simp
   rw[mem_ready] at this
   have h1:=hall j
   rw[this.1] at h1
   cases h1
 |fuel+1,listed,a,w,hsz,hl,hJ=>by
  refine⟨fun hr=>hend listed a w hsz (all_of_ready hsz hord hr) hJ,fun i hi=> ?_⟩
  have hun:=(mem_ready.1 hi).1
  have hset:=left_set hun
  exact wpOp_mono (fun a' w' h'=>wpAny_inv J hord hstep hend fuel (listed.setIfInBounds i true) a' w' (by simpa using hsz) (by omega) h') (hstep listed a w i hsz hi hJ)
theorem wp_region_inv {id:Nat} {a:Act} {w:World} (hm:P.follows .mixedOrders=true) (J:Array Bool→Act→World→Prop) (hord:(ops.toList.zipIdx.all fun x=>x.1.after.all fun e=>decide (e.on<x.2))=true)
  (h0:J (Array.replicate ops.size false) a w.drew)
  (hstep:∀(listed:Array Bool) (a:Act) (w:World) (i:Nat) (o:Oper),listed.size=ops.size→listed.getD i true=false→ops[i]? =some o→(∀e∈o.after,Region.binds .any e=true→listed.getD e.on false=true)→J listed a w→
   ∀K':Act→World→Prop,(∀a' w',J (listed.setIfInBounds i true) a' w'→K' a' w')→if Region.wanted o (yielded ops a.tmps)=true then Oper.wp P o a w K' Q else K' (a.put o.dst undef) w)
  (hend:∀(listed:Array Bool) (a:Act) (w:World),listed.size=ops.size→(∀i,listed.getD i true=true)→J listed a w→Q .normal a w):(Code.region id ops true).wp P Q a w:=by
 refine wp_region_any hm (wpAny_inv J ?_ ?_ hend ops.size _ a w.drew (by simp) ?_ h0)
 ·intro j o ho e he
  have hj:j<ops.size:=(Array.getElem?_eq_some_iff.1 ho).1
  have h1:=List.all_eq_true.1 hord (o,j) (by
   rw[List.mem_zipIdx_iff_getElem?]
   simpa using ho)
  have h2:=(Array.all_eq_true'.1 h1) e he
  simpa using h2
 ·intro listed a w i hsz hi hJ
  obtain⟨hun,o,ho,hdep⟩:=mem_ready.1 hi
  exact wpOp_step ho (hstep listed a w i o hsz hun ho hdep hJ)
 ·unfold left
  refine Nat.le_trans List.countP_le_length ?_
  simp
end Inv
end
end Go.Proofs.YtmkagjnkpjpjcaaGreat
