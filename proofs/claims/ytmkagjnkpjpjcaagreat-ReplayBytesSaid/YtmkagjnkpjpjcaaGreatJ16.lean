/-
  SEVERAL TEXTS IN ONE FILE: PZnsClose, PZnsPut, PZnsOpen, PZnsActA, PZnsActB, PZnsActC, PZnsActD, PZnsActs.
-/
import Derived.Test.YtmkagjnkpjpjcaaGreatJ15
import Derived.Test.YtmkagjnkpjpjcaaGreatJ13
import Derived.Maps.OwnOps
namespace Go.Proofs.YtmkagjnkpjpjcaaGreat
set_option maxRecDepth 100000
set_option linter.unusedSimpArgs false
set_option linter.unusedVariables false
set_option maxHeartbeats 12800000
section
open Go.RowKit Mem Zon
namespace Zns
theorem one_row {w:World} {x:Zv} {q:Nat} (hq:q=w.heap.size):RowS cellsZ 3 (w.alloc (.cells #[.int .i64 x.z.st,.int .i64 x.z.fc,.slice x.D x.z.data.length x.c] 46)) (some ⟨q,0,none⟩) 1 1 [x]:=by
 subst hq
 refine⟨rfl,by omega,by omega,fun _=>⟨_,_,rfl,by simp,fun i y hi j u hu=> ?_⟩⟩
 match i,hi with
 |0,hi=>
  simp at hi
  subst hi
  rw[cell_of_row _ w.heap.size (0+0*3+j) _ _ (0,0) (heap_alloc_new w _)]
  simpa [cellsZ] using hu
theorem one_O (x:Zv):cntO [x]=(bif openB x.z then 1 else 0):=by unfold cntO;rw[List.countP_cons,List.countP_nil];cases openB x.z<;>rfl
theorem one_A (x:Zv):cntA [x]=(bif actB x.z then 1 else 0):=by unfold cntA;rw[List.countP_cons,List.countP_nil];cases actB x.z<;>rfl
theorem opened1 {x:Zv} {w:World} {q:Nat} (hq:q=w.heap.size):
  Calls Tryz.prog 56 #[.slice (some ⟨q,0,none⟩) 1 1] (w.alloc (.cells #[.int .i64 x.z.st,.int .i64 x.z.fc,.slice x.D x.z.data.length x.c] 46)) fun e w'=>e= .returned (.int .i64 (bif openB x.z then 1 else 0))∧Below w.heap.size w w':=by
 refine(opened_any (one_row (x:=x) hq)).mono fun e w' ⟨h1,h2⟩=>⟨?_,((Below.refl _ w).alloc (Nat.le_refl _) _).trans (h2.mono (by simp))⟩
 rw[h1,one_O];cases openB x.z<;>rfl
theorem active1 {x:Zv} {w:World} {q:Nat} (hq:q=w.heap.size):
  Calls Tryz.prog 57 #[.slice (some ⟨q,0,none⟩) 1 1] (w.alloc (.cells #[.int .i64 x.z.st,.int .i64 x.z.fc,.slice x.D x.z.data.length x.c] 46)) fun e w'=>e= .returned (.int .i64 (bif actB x.z then 1 else 0))∧Below w.heap.size w w':=by
 refine(active_any (one_row (x:=x) hq)).mono fun e w' ⟨h1,h2⟩=>⟨?_,((Below.refl _ w).alloc (Nat.le_refl _) _).trans (h2.mono (by simp))⟩
 rw[h1,one_A];cases actB x.z<;>rfl
theorem Desk.opened {k:Dk} {xs:List Zv} {w:World} (h:Desk k xs w):
  Calls Tryz.prog 56 #[.slice (some ⟨k.q,k.o,none⟩) k.n k.c] w fun e w'=>e= .returned (.int .i64 (cO (xs.map Zv.z):Int))∧Below w.heap.size w w':=by
 have:=opened_any h.row
 rwa [cntO_map] at this
theorem Desk.active {k:Dk} {xs:List Zv} {w:World} (h:Desk k xs w):
  Calls Tryz.prog 57 #[.slice (some ⟨k.q,k.o,none⟩) k.n k.c] w fun e w'=>e= .returned (.int .i64 (cA (xs.map Zv.z):Int))∧Below w.heap.size w w':=by
 have:=active_any h.row
 rwa [cntA_map] at this
theorem Desk.index {k:Dk} {xs:List Zv} {w:World} (h:Desk k xs w):
  Calls Tryz.prog 191 #[.slice (some ⟨k.q,k.o,none⟩) k.n k.c,.func (.func 192) #[] #[]] w fun e w'=>e= .returned (.int .i64 (firstV xs))∧Below w.heap.size w w':=index_any h.row
theorem toClose_any {k:Dk} {xs:List Zv} {w:World} {i:Nat} {x:Zv} (h:Desk k xs w) (hx:xs[i]? =some x):
  Calls Tryz.prog 160 #[.pointer (some ⟨k.g,0,none⟩),.int .i64 (i:Int)] w fun e w'=>e= .returned (.tuple #[.int .i64 (toCl k.op k.ac (xs.map Zv.z) x.z).1,.int .i64 (toCl k.op k.ac (xs.map Zv.z) x.z).2])∧Below w.heap.size w w':=by
 have H:=Lib.hid h
 have HX:=Lib.hid hx
 have hcell:=fun W (h:Desk k xs W)=>And.intro h.cells.2.1 (And.intro h.cells.2.2.1 (And.intro h.cells.2.2.2.1 (h.elem hx)))
 have hi0:(0:Int)≤(i:Int):=by omega
 have hi1:(i:Int)<(k.n:Int):=by have:=(List.getElem?_eq_some_iff.1 hx).1;have:=h.len;omega
 have HO1:=fun(w:World) (q:Nat) (hq:q=w.heap.size)=>Lib.hid (opened1 (x:=x) (w:=w) (q:=q) hq)
 have HA1:=fun(w:World) (q:Nat) (hq:q=w.heap.size)=>Lib.hid (active1 (x:=x) (w:=w) (q:=q) hq)
 have HO:=fun w (h:Desk k xs w)=>Lib.hid h.opened
 have HA:=fun w (h:Desk k xs w)=>Lib.hid h.active
 have HI:=fun w (h:Desk k xs w)=>Lib.hid h.index
 have hF:firstV xs=(wayI (firstI (xs.map Zv.z))).1∧(decide (firstV xs<0)=false∧(wayI (firstI (xs.map Zv.z))).2=0∨decide (firstV xs<0)=true∧firstV xs= -1∧(wayI (firstI (xs.map Zv.z))).2=43):=by
  unfold firstV
  rw[firstV_map]
  cases firstI (xs.map Zv.z) with
  |none=>exact⟨rfl,.inr ⟨by decide,rfl,rfl⟩⟩
  |some j=>exact⟨rfl,.inl ⟨by simp,rfl⟩⟩
 have HFF:=Lib.hid hF
 unfold toCl
 clear h hx hF
 generalize wayI (firstI (xs.map Zv.z))=wy at*
 generalize firstV xs=fv at*
 generalize cO (xs.map Zv.z)=co at*
 generalize cA (xs.map Zv.z)=ca at*
 rcases e1:openB x.z
 ·rw[e1] at HO1
  generalize hb3:(!actB x.z&&decide (k.ac≤(ca:Int)))=b3
  go_enter Tryz.func160,Tryz.ntmps160
  obtain⟨d1,d2,d3,z0,z1,z2⟩:=hcell _ H.out
  go_wp2_with fail
  refine(HO1 w _ rfl).out.mono ?_
  rintro e w1 ⟨rfl,hb⟩
  have L1:=Lib.hid hb
  have K1:=Lib.hid (H.out.below hb)
  clear hb d1 d2 d3 z0 z1 z2 H
  simp only[cond_false]
  go_upto_region 3 with fail
  go_cut [19] (fun s wx=>s= .bool b3∧Hid (Desk k xs wx∧Below w.heap.size w wx))
  case first=>
   have K2:Hid (Desk k xs w1.drew):=K1.out.below (Below.refl _ w1).drew
   have L2:Hid (Below w.heap.size w w1.drew):=L1.out.drew
   clear K1 L1
   rcases e2:actB x.z
   all_goals
    rw[e2] at HA1 hb3
    refine wp_region_held_drew (S:=fun W=>W.cell? ⟨k.g,1,none⟩=some (.int .i64 k.op)∧W.cell? ⟨k.g,2,none⟩=some (.int .i64 k.ac)∧W.cell? ⟨k.g,3,none⟩=some (.slice (some ⟨k.q,k.o,none⟩) k.n k.c)∧W.cell? ⟨k.q,k.o+i*3,none⟩=some (.int .i64 x.z.st)∧W.cell? ⟨k.q,k.o+i*3+1,none⟩=some (.int .i64 x.z.fc)∧W.cell? ⟨k.q,k.o+i*3+2,none⟩=some (.slice x.D x.z.data.length x.c))
     (by kernel_rfl) (hcell _ K2.out) (fun hHeld=> ?_)
    refine Reg.tk 0 rfl ?_
    refine Reg.tk 1 rfl ?_
    refine Reg.tk 2 rfl ?_
    refine Reg.tk 3 rfl ?_
    refine Reg.tk 4 rfl ?_
    refine Reg.tk 5 rfl ?_
    refine Reg.tk 6 rfl ?_
    refine Reg.tk 7 rfl ?_
    refine Reg.step 8 rfl (by kernel_rfl) (by rfl) (fun K hK=> ?_)
    go_simp
    have K3:=Lib.hid (K2.out.below ((Below.refl _ w1.drew).alloc (Nat.le_refl _) (.cells #[.int .i64 x.z.st,.int .i64 x.z.fc,.slice x.D x.z.data.length x.c] 46)))
    refine hK.out _ _ (hcell _ K3.out) (fun hHeld2=> ?_)
    clear hK K
    (try simp only[Act.put,List.setIfInBounds_toArray,List.set_cons_zero,List.set_cons_succ])
    refine Reg.step 9 rfl (by kernel_rfl) (by rfl) (fun K hK=> ?_)
    go_simp
    refine(HA1 w1.drew _ rfl).out.mono ?_
    rintro e w2 ⟨rfl,hb⟩
    simp only[cond_true,cond_false]
    have K4:=Lib.hid (K2.out.below hb)
    have L4:=Lib.hid (L2.out.trans (hb.mono L2.out.size))
    clear hb K3 K2 L2
    refine hK.out _ _ (hcell _ K4.out) (fun hHeld2=> ?_)
    clear hK K
    (try simp only[Act.put,List.setIfInBounds_toArray,List.set_cons_zero,List.set_cons_succ])
   ·refine Reg.tk 10 rfl ?_
    refine Reg.tk 11 rfl ?_
    refine Reg.tk 12 rfl ?_
    refine Reg.tk 13 rfl ?_
    refine Reg.tk 14 rfl ?_
    refine Reg.tk 15 rfl ?_
    refine Reg.tk 16 rfl ?_
    refine Reg.tk 18 rfl ?_
    refine Reg.tk 19 rfl ?_
    refine Reg.tk 20 rfl ?_
    refine Reg.tk 21 rfl ?_
    refine Reg.tk 22 rfl ?_
    refine Reg.step 17 rfl (by kernel_rfl) (by rfl) (fun K hK=> ?_)
    go_simp
    refine(HA w2 K4.out).out.mono ?_
    rintro e w3 ⟨rfl,hb⟩
    have K5:=Lib.hid (K4.out.below hb)
    have L5:=Lib.hid (L4.out.trans (hb.mono L4.out.size))
    clear hb
    refine hK.out _ _ (hcell _ K5.out) (fun hHeld2=> ?_)
    clear hK K
    (try simp only[Act.put,List.setIfInBounds_toArray,List.set_cons_zero,List.set_cons_succ])
    have hd:decide (k.ac≤(ca:Int))=b3:=by simpa using hb3
    clear hb3
    refine Reg.tk 23 rfl ?_
    refine Reg.tk 24 rfl ?_
    refine Reg.tk 25 rfl ?_
    refine wpAnyH_done (by kernel_rfl) ?_ _
    go_wp2_with fail
    go_meet
    exact⟨rfl,K5.out,L5.out⟩
   ·have hd:b3=false:=by simpa using hb3.symm
    subst hd
    clear hb3
    refine Reg.tk 10 rfl ?_
    refine Reg.tk 11 rfl ?_
    refine Reg.tk 12 rfl ?_
    refine Reg.tk 13 rfl ?_
    refine Reg.tk 14 rfl ?_
    refine Reg.tk 15 rfl ?_
    refine Reg.tk 16 rfl ?_
    refine Reg.tk 17 rfl ?_
    refine Reg.tk 18 rfl ?_
    refine Reg.tk 19 rfl ?_
    refine Reg.tk 20 rfl ?_
    refine Reg.tk 21 rfl ?_
    refine Reg.tk 22 rfl ?_
    refine Reg.tk 23 rfl ?_
    refine Reg.tk 24 rfl ?_
    refine Reg.tk 25 rfl ?_
    refine wpAnyH_done (by kernel_rfl) ?_ _
    go_wp2_with fail
    go_meet
    exact⟨rfl,K4.out,L4.out⟩
  case rest=>
   obtain⟨rfl,hKL⟩:=hcut
   have K2:Hid (Desk k xs wc.drew):=hKL.out.1.below (Below.refl _ wc).drew
   have K0:=Lib.hid hKL.out.1
   have L0:=Lib.hid hKL.out.2
   have L2:Hid (Below w.heap.size w wc.drew):=hKL.out.2.drew
   clear hKL
   clear hb3
   rcases b3
   ·go_upto_region 5 with fail
    clear K0 L0
    rcases e5:decide ((co:Int)<k.op)
    all_goals
     refine wp_region_held_drew (S:=fun W=>W.cell? ⟨k.g,1,none⟩=some (.int .i64 k.op)∧W.cell? ⟨k.g,2,none⟩=some (.int .i64 k.ac)∧W.cell? ⟨k.g,3,none⟩=some (.slice (some ⟨k.q,k.o,none⟩) k.n k.c)∧W.cell? ⟨k.q,k.o+i*3,none⟩=some (.int .i64 x.z.st)∧W.cell? ⟨k.q,k.o+i*3+1,none⟩=some (.int .i64 x.z.fc)∧W.cell? ⟨k.q,k.o+i*3+2,none⟩=some (.slice x.D x.z.data.length x.c))
      (by kernel_rfl) (hcell _ K2.out) (fun hHeld=> ?_)
     refine Reg.tk 0 rfl ?_
     refine Reg.tk 1 rfl ?_
     refine Reg.tk 2 rfl ?_
     refine Reg.tk 3 rfl ?_
     refine Reg.tk 4 rfl ?_
     refine Reg.tk 6 rfl ?_
     refine Reg.tk 7 rfl ?_
     refine Reg.tk 8 rfl ?_
     refine Reg.tk 9 rfl ?_
     refine Reg.tk 10 rfl ?_
     refine Reg.step 5 rfl (by kernel_rfl) (by rfl) (fun K hK=> ?_)
     go_simp
     refine(HO wc.drew K2.out).out.mono ?_
     rintro e w3 ⟨rfl,hb⟩
     have K5:=Lib.hid (K2.out.below hb)
     have L5:=Lib.hid (L2.out.trans (hb.mono L2.out.size))
     clear hb
     refine hK.out _ _ (hcell _ K5.out) (fun hHeld2=> ?_)
     clear hK K
     (try simp only[Act.put,List.setIfInBounds_toArray,List.set_cons_zero,List.set_cons_succ])
     refine Reg.tk 11 rfl ?_
     refine Reg.tk 12 rfl ?_
     refine wpAnyH_done (by kernel_rfl) ?_ _
    ·go_upto_region 7 with fail
     obtain⟨d1,d2,d3,z0,z1,z2⟩:=hcell _ K5.out
     go_wp2_with fail
     refine(HI w3 K5.out).out.mono ?_
     rintro e w4 ⟨rfl,hb⟩
     have L6:=Lib.hid (L5.out.trans (hb.mono L5.out.size))
     clear hb d1 d2 d3 z0 z1 z2
     rcases HFF.out.2 with⟨e6,e7⟩|⟨e6,e8,e7⟩
     ·go_wp2_with fail
      go_ret2
      exact⟨by rw[e5];simp only[cond_false];rw[←HFF.out.1,e7]<;>rfl,L6.out⟩
     ·go_wp2_with fail
      go_ret2
      exact⟨by rw[e5];simp only[cond_false];rw[←HFF.out.1,e7,e8]<;>rfl,L6.out⟩
    ·go_wp2_with fail
     go_ret2
     exact⟨by rw[e5];rfl,L5.out⟩
   ·clear K2 L2
    go_wp2_with fail
    go_ret2
    exact⟨rfl,L0.out⟩
 ·rw[e1] at HO1
  go_enter Tryz.func160,Tryz.ntmps160
  obtain⟨d1,d2,d3,z0,z1,z2⟩:=hcell _ H.out
  go_wp2_with fail
  refine(HO1 w _ rfl).out.mono ?_
  rintro e w1 ⟨rfl,hb⟩
  have L1:=Lib.hid hb
  clear hb d1 d2 d3 z0 z1 z2
  simp only[cond_true]
  go_wp2_with fail
  go_ret2
  exact⟨rfl,L1.out⟩
end Zns
end
section
open Go.RowKit Mem Zon
namespace Zns
def EBox (w:World) (b:Nat) (e a:Int) (B:Option Addr) (n d:Nat):Prop:=Cells w b 51 #[.int .i64 e,.int .i64 a,.slice B n d]
section
variable {w w':World} {b:Nat} {e a:Int} {B:Option Addr} {n d:Nat}
theorem EBox.below (h:EBox w b e a B n d) (hb:Below w.heap.size w w'):EBox w' b e a B n d:=Cells.below h hb
theorem EBox.lt (h:EBox w b e a B n d):b<w.heap.size:=Cells.lt h
theorem EBox.cells (h:EBox w b e a B n d):w.cell? ⟨b,0,none⟩=some (.int .i64 e)∧w.cell? ⟨b,1,none⟩=some (.int .i64 a)∧w.cell? ⟨b,2,none⟩=some (.slice B n d):=⟨Cells.cell h 0,Cells.cell h 1,Cells.cell h 2⟩
theorem EBox.frozen (h:EBox w b e a B n d):w.frozen? ⟨b,0,none⟩=false∧w.frozen? ⟨b,1,none⟩=false∧w.frozen? ⟨b,2,none⟩=false:=⟨Cells.frozen h 0,Cells.frozen h 1,Cells.frozen h 2⟩
theorem EBox.but {q:Nat} (h:EBox w b e a B n d) (hb:But q w w') (hn:b≠q):EBox w' b e a B n d:=Cells.but h hb hn
theorem EBox.store (h:EBox w b e a B n d) (e' a':Int) (B':Option Addr) (n' d':Nat):EBox (((w.setCell ⟨b,0,none⟩ (.int .i64 e')).setCell ⟨b,1,none⟩ (.int .i64 a')).setCell ⟨b,2,none⟩ (.slice B' n' d')) b e' a' B' n' d':=
 Cells.set_ (Cells.set_ (Cells.set_ h 0 (.int .i64 e')) 1 (.int .i64 a')) 2 (.slice B' n' d')
theorem EBox.row3 {A:Option Addr} {m c:Nat} {l:List B8} (h:EBox w b e a B n d) (hr:Row cb w A m c l) (x y:Int) (B':Option Addr) (n' d':Nat):
  Row cb (((w.setCell ⟨b,0,none⟩ (.int .i64 x)).setCell ⟨b,1,none⟩ (.int .i64 y)).setCell ⟨b,2,none⟩ (.slice B' n' d')) A m c l:=by
 have h1:=EBox.cells h
 have s1:Cells _ b _ _:=Cells.set_ h 0 (.int .i64 x)
 have s2:Cells _ b _ _:=Cells.set_ s1 1 (.int .i64 y)
 have r1:=Row.setNot hr h1.1 (int_not _) (.int .i64 x)
 have r2:=Row.setNot r1 (show _=some (.int .i64 a) from Cells.cell s1 1) (int_not _) (.int .i64 y)
 exact Row.setNot r2 (show _=some (.slice B n d) from Cells.cell s2 2) (slice_not _ _ _) _
end
theorem Desk.other3 {k:Dk} {xs:List Zv} {w:World} {b:Nat} {e a:Int} {B:Option Addr} {n d:Nat} (h:Desk k xs w) (hb:EBox w b e a B n d) (hg:b≠k.g) (hq:b≠k.q) (x y:Int) (B':Option Addr) (n' d':Nat):
  Desk k xs (((w.setCell ⟨b,0,none⟩ (.int .i64 x)).setCell ⟨b,1,none⟩ (.int .i64 y)).setCell ⟨b,2,none⟩ (.slice B' n' d')):=
 ⟨Cells.set_other (Cells.set_other (Cells.set_other h.box hg _ _) hg _ _) hg _ _,
  h.own.heap (((Below.heap_setCell _ _ _ _ (Ne.symm hq)).trans (Below.heap_setCell _ _ _ _ (Ne.symm hq))).trans (Below.heap_setCell _ _ _ _ (Ne.symm hq))),
  h.len,h.cap,h.big,fun z hz=>EBox.row3 hb (h.data z hz) x y B' n' d',h.ne,h.low⟩
theorem But.new1 {q b:Nat} {w w':World} (h:But q w w') (hb:w.heap.size≤b) (i:Nat) (v:Value):But q w (w'.setCell ⟨b,i,none⟩ v):=
 ⟨⟨h.1.os,h.1.tape,h.1.output,by have:=h.1.size;simpa using this,fun j hj hn=>(Below.heap_setCell _ _ _ _ (by show j≠b;omega)).trans (h.1.block j hj hn)⟩⟩
theorem Desk.g_lt {k:Dk} {xs:List Zv} {w:World} (h:Desk k xs w):k.g<w.heap.size:=Cells.lt h.box
theorem Desk.q_lt {k:Dk} {xs:List Zv} {w:World} (h:Desk k xs w):k.q<w.heap.size:=h.own.lt
theorem acted_end {k:Dk} {xs xs':List Zv} {w w':World} {b:Nat} {e a:Int} {B:Option Addr} {n d:Nat} (h0:Desk k xs w) (h:Desk k xs' w') (hb:EBox w' b e a B n d) (hbb:w.heap.size≤b) (hB:But k.q w w')
  (p:Dn) (X:Option Addr) (c:Nat) (hr:Away k.q w' X p.b.length c p.b) {r:List Zn × Dn} (hz:xs'.map Zv.z=r.1) (hp:p=r.2):
  Acted k w r (.returned (.agg #[.int .i64 p.e,.int .i64 p.at_,.slice X p.b.length c])) (((w'.setCell ⟨b,0,none⟩ (.int .i64 p.e)).setCell ⟨b,1,none⟩ (.int .i64 p.at_)).setCell ⟨b,2,none⟩ (.slice X p.b.length c)):=by
 subst hp
 have h1:=h0.g_lt
 have h2:=h0.q_lt
 exact⟨xs',X,c,rfl,h.other3 hb (by omega) (by omega) _ _ _ _ _,hz,⟨EBox.row3 hb hr.1 _ _ _ _ _,hr.2⟩,But.new1 (But.new1 (But.new1 hB hbb _ _) hbb _ _) hbb _ _⟩
theorem map_set (xs:List Zv) (i:Nat) (x:Zv):(xs.set i x).map Zv.z=(xs.map Zv.z).set i x.z:=List.map_set
def putP (zs:List Zn) (i:Nat) (z:Zn) (e:Int):List Zn × Dn:=bif e==0 then(zs.set i z,fail_ 0) else(zs,fail_ e)
end Zns
end
section
open Go.RowKit Mem Zon
namespace Zns
theorem toCl_cases (op ac:Int) (zs:List Zn) (z:Zn):(toCl op ac zs z=(-1,0))∨(toCl op ac zs z=(-1,44)∨toCl op ac zs z=(-1,43))∨∃(j:Nat) (y:Zn),toCl op ac zs z=((j:Int),0)∧zs[j]? =some y∧y.st=1:=by
 unfold toCl
 rcases openB z
 ·rcases(!actB z&&decide (ac≤(cA zs:Int)))
  ·rcases decide ((cO zs:Int)<op)
   ·simp only[cond_false]
    rcases e:firstI zs with _|j
    ·exact .inr (.inl (.inr rfl))
    ·have e':=e
     unfold firstI at e'
     rw[List.findIdx?_eq_some_iff_getElem] at e'
     obtain⟨hj,h1,-⟩:=e'
     exact .inr (.inr ⟨j,zs[j],rfl,List.getElem?_eq_getElem hj,by simpa using h1⟩)
   ·exact .inl rfl
  ·exact .inr (.inl (.inl rfl))
 ·exact .inl rfl
def PutO (k:Dk) (w:World) (r:List Zn × Int) (en:Ending) (w':World):Prop:=∃xs',en= .returned (.int .i64 r.2)∧Desk k xs' w'∧xs'.map Zv.z=r.1∧But k.q w w'
theorem putOpen_any {k:Dk} {xs:List Zv} {w:World} {i:Nat} {x:Zv} (z:Zn) (D:Option Addr) (c:Nat) (h:Desk k xs w) (hx:xs[i]? =some x) (hr:Row cb w D z.data.length c z.data) (hlo:Lo k.g D):
  Calls Tryz.prog 159 #[.pointer (some ⟨k.g,0,none⟩),.int .i64 (i:Int),zv z D c] w (PutO k w (putO k.op k.ac (xs.map Zv.z) i z)):=by
 have H:=Lib.hid h
 have HX:=Lib.hid hx
 have hi0:(0:Int)≤(i:Int):=by omega
 have hi1:(i:Int)<(k.n:Int):=by have:=(List.getElem?_eq_some_iff.1 hx).1;have:=h.len;omega
 have L1:=Lib.hid ((Below.refl w.heap.size w).alloc (Nat.le_refl _) (.cells #[.int .i64 z.st,.int .i64 z.fc,.slice D z.data.length c] 46))
 have B1:Hid (Box (w.alloc (.cells #[.int .i64 z.st,.int .i64 z.fc,.slice D z.data.length c] 46)) w.heap.size z D c):=Box.new w z D c
 have R:=Lib.hid hr
 have HT:=fun w (h:Desk k xs w)=>Lib.hid (toClose_any h hx)
 have HC:=fun(y:Zn) E d w (h:Row cb w E y.data.length d y.data)=>Lib.hid (close_any h)
 have hq:Hid (w.heap.size≠k.q):=by have:=h.q_lt;show _≠_;omega
 have hcell:=fun W (xs:List Zv) (x:Zv) (hx:xs[i]? =some x) (h:Desk k xs W) (hb:Box W w.heap.size z D c)=>And.intro h.cells.2.2.2.1 (And.intro (hb.cells) (And.intro (h.elem hx) (And.intro (h.frozen (k.o+i*3)) (And.intro (h.frozen (k.o+i*3+1)) (h.frozen (k.o+i*3+2))))))
 have hcellj:=fun W (j:Nat) (y:Zv) (hy:xs[j]? =some y) (h:Desk k xs W) (hb:Box W w.heap.size z D c)=>And.intro h.cells.2.2.2.1 (And.intro (hb.cells) (And.intro (h.elem hy) (And.intro (h.frozen (k.o+j*3)) (And.intro (h.frozen (k.o+j*3+1)) (h.frozen (k.o+j*3+2))))))
 have hat:=atI_of hx
 have hxl:=(List.getElem?_eq_some_iff.1 hx).1
 clear h hx hr
 unfold putO
 rw[hat]
 unfold zv GaveZ PutO at*
 rcases toCl_cases k.op k.ac (xs.map Zv.z) x.z with ht|ht|⟨j,y0,ht,hy0,hy1⟩
 ·rw[ht] at HT ⊢
  go_enter Tryz.func159,Tryz.ntmps159
  go_upto_region 1 with fail
  generalize w.alloc (.cells #[.int .i64 z.st,.int .i64 z.fc,.slice D z.data.length c] 46)=w1 at*
  go_wp2_with fail
  refine(HT w1 (H.out.below L1.out)).out.mono ?_
  rintro e wx ⟨rfl,hb⟩
  have LX:=Lib.hid (L1.out.trans (hb.mono L1.out.size))
  have BX:=Lib.hid (B1.out.below hb)
  clear hb L1 B1 HT
  go_upto_region 6 with fail
  have H2:Hid (Desk k xs wx.drew):=H.out.below LX.out.drew
  have B2:Hid (Box wx.drew w.heap.size z D c):=BX
  have R2:Hid (Row cb wx.drew D z.data.length c z.data):=R.out.below LX.out.drew
  have U2:Hid (But k.q w wx.drew):=But.of_below LX.out.drew
  have hx2:=HX.out
  clear LX BX
  refine wp_region_held_drew (S:=fun W=>W.cell? ⟨k.g,3,none⟩=some (.slice (some ⟨k.q,k.o,none⟩) k.n k.c)∧(W.cell? ⟨w.heap.size,0,none⟩=some (.int .i64 z.st)∧W.cell? ⟨w.heap.size,1,none⟩=some (.int .i64 z.fc)∧W.cell? ⟨w.heap.size,2,none⟩=some (.slice D z.data.length c)))
   (by kernel_rfl) ⟨(hcell _ _ _ hx2 H2.out B2.out).1,(hcell _ _ _ hx2 H2.out B2.out).2.1⟩ (fun hHeld=> ?_)
  generalize wx.drew=w2 at*
  have HS:=Lib.hid (H2.out.store ⟨z,D,c⟩ hx2 R2.out hlo)
  have HZ:=Lib.hid (Box.but B2.out (But.set3 (But.refl k.q w2) (k.o+i*3) (k.o+i*3+1) (k.o+i*3+2) (.int .i64 z.st) (.int .i64 z.fc) (.slice D z.data.length c)) hq.out)
  have HB:=Lib.hid (But.set3 U2.out (k.o+i*3) (k.o+i*3+1) (k.o+i*3+2) (.int .i64 z.st) (.int .i64 z.fc) (.slice D z.data.length c))
  obtain⟨d3,q0,q1,s0,s1,s2⟩:=hcell _ _ _ hx2 H2.out B2.out
  refine Reg.tk 0 rfl ?_
  refine Reg.tk 1 rfl ?_
  refine Reg.tk 2 rfl ?_
  refine Reg.tk 3 rfl ?_
  refine Reg.tk 4 rfl ?_
  refine Reg.tk 5 rfl ?_
  refine Reg.tk 6 rfl ?_
  refine Reg.tk 7 rfl ?_
  refine Reg.step 8 rfl (by kernel_rfl) (by rfl) (fun K hK=> ?_)
  obtain⟨g0,g1,g2⟩:=q1
  go_simp
  refine hK.out _ _ ⟨HS.out.cells.2.2.2.1,HZ.out.cells⟩ (fun hHeld2=> ?_)
  clear hK K
  (try simp only[Act.put,List.setIfInBounds_toArray,List.set_cons_zero,List.set_cons_succ])
  refine wpAnyH_done (by kernel_rfl) ?_ _
  clear d3 q0 g0 g1 g2 s0 s1 s2 hHeld hHeld2
  generalize((w2.setCell ⟨k.q,k.o+i*3,none⟩ (.int .i64 z.st)).setCell ⟨k.q,k.o+i*3+1,none⟩ (.int .i64 z.fc)).setCell ⟨k.q,k.o+i*3+2,none⟩ (.slice D z.data.length c)=w9 at*
  go_wp2_with fail
  go_ret
  exact⟨_,rfl,HS.out,map_set xs i _,HB.out⟩
 ·obtain⟨er,ht,hne⟩:∃er,toCl k.op k.ac (xs.map Zv.z) x.z=(-1,er)∧er≠0:=by
    rcases ht with ht|ht
    ·exact⟨_,ht,by decide⟩
    ·exact⟨_,ht,by decide⟩
  rw[ht] at HT ⊢
  have hne1:(er !=0)=true:=bne_iff_ne.2 hne
  have hne2:(er==0)=false:=beq_eq_false_iff_ne.2 hne
  rw[hne2]
  go_enter Tryz.func159,Tryz.ntmps159
  go_upto_region 1 with fail
  generalize w.alloc (.cells #[.int .i64 z.st,.int .i64 z.fc,.slice D z.data.length c] 46)=w1 at*
  clear hne
  go_wp2_with fail
  refine(HT w1 (H.out.below L1.out)).out.mono ?_
  rintro e wx ⟨rfl,hb⟩
  have LX:=Lib.hid (L1.out.trans (hb.mono L1.out.size))
  clear hb L1 B1 HT
  go_wp2_with fail
  go_ret
  exact⟨xs,rfl,H.out.below LX.out,rfl,But.of_below LX.out⟩
 ·obtain⟨y,hy,rfl⟩:∃y,xs[j]? =some y∧y.z=y0:=by
    rw[List.getElem?_map] at hy0
    obtain⟨y,h1,h2⟩:=Option.map_eq_some_iff.1 hy0
    exact⟨y,h1,h2⟩
  have HY:=Lib.hid hy
  have hj0:(0:Int)≤(j:Int):=by omega
  have hj1:(j:Int)<(k.n:Int):=by have:=(List.getElem?_eq_some_iff.1 hy).1;have:=H.out.len;omega
  have hjn:((j:Int) != -1)=true:=bne_iff_ne.2 (by omega)
  have hjn2:((j:Int)== -1)=false:=beq_eq_false_iff_ne.2 (by omega)
  have hatj:=atI_of hy
  rw[ht] at HT ⊢
  clear hy hy0 hy1
  go_enter Tryz.func159,Tryz.ntmps159
  go_upto_region 1 with fail
  generalize w.alloc (.cells #[.int .i64 z.st,.int .i64 z.fc,.slice D z.data.length c] 46)=w1 at*
  go_wp2_with fail
  refine(HT w1 (H.out.below L1.out)).out.mono ?_
  rintro e wx ⟨rfl,hb⟩
  have LX:=Lib.hid (L1.out.trans (hb.mono L1.out.size))
  have BX:=Lib.hid (B1.out.below hb)
  clear hb L1 B1 HT
  go_upto_region 5 with fail
  have H2:Hid (Desk k xs wx.drew):=H.out.below LX.out.drew
  have B2:Hid (Box wx.drew w.heap.size z D c):=BX
  have L2:Hid (Below w.heap.size w wx.drew):=LX.out.drew
  clear LX BX
  refine wp_region_held_drew (S:=fun W=>W.cell? ⟨k.g,3,none⟩=some (.slice (some ⟨k.q,k.o,none⟩) k.n k.c)∧(W.cell? ⟨w.heap.size,0,none⟩=some (.int .i64 z.st)∧W.cell? ⟨w.heap.size,1,none⟩=some (.int .i64 z.fc)∧W.cell? ⟨w.heap.size,2,none⟩=some (.slice D z.data.length c)))
   (by kernel_rfl) (by obtain⟨a,b,d,-⟩:=hcellj _ j y HY.out H2.out B2.out;exact⟨a,b⟩) (fun hHeld=> ?_)
  generalize wx.drew=w2 at*
  refine Reg.tk 0 rfl ?_
  refine Reg.tk 1 rfl ?_
  refine Reg.tk 2 rfl ?_
  refine Reg.tk 3 rfl ?_
  refine Reg.tk 4 rfl ?_
  refine Reg.tk 5 rfl ?_
  refine Reg.tk 6 rfl ?_
  refine Reg.tk 7 rfl ?_
  refine Reg.tk 8 rfl ?_
  refine Reg.tk 9 rfl ?_
  refine Reg.tk 10 rfl ?_
  refine Reg.tk 11 rfl ?_
  refine Reg.tk 12 rfl ?_
  refine Reg.step 13 rfl (by kernel_rfl) (by rfl) (fun K hK=> ?_)
  obtain⟨a1,a2,⟨a3,a4,a5⟩,a6,a7,a8⟩:=hcellj _ j y HY.out H2.out B2.out
  go_simp
  clear a3 a4 a5 a6 a7 a8
  refine hK.out _ _ ⟨a1,a2⟩ (fun hHeld2=> ?_)
  clear hK K a1 a2 hHeld2
  (try simp only[Act.put,List.setIfInBounds_toArray,List.set_cons_zero,List.set_cons_succ])
  refine Reg.step 14 rfl (by kernel_rfl) (by rfl) (fun K hK=> ?_)
  go_simp
  refine(HC y.z y.D y.c w2 (H2.out.data_at HY.out)).out.mono ?_
  rintro e w3 ⟨X,q,rfl,hX,hb⟩
  unfold zv
  have HVL:Hid ((closeZ y.z).data.length≤140737488351232):=by
   show _≤_
   have:=(H2.out.data_at HY.out).big
   unfold closeZ
   rcases(y.z.st==0||y.z.st==4)
   ·rcases(y.z.data.length==0)<;>exact this
   ·exact Nat.zero_le _
  have HMP:Hid (∀X q,(((xs.set j ⟨closeZ y.z,X,q⟩).set i ⟨z,D,c⟩).map Zv.z)=(closeAt (xs.map Zv.z) j).set i z):=by
   show ∀_,_
   intro X q
   unfold closeAt
   rw[hjn2,cond_false,Int.toNat_natCast,hatj,map_set,map_set]
  generalize closeZ y.z=v at*
  have RX:=Lib.hid hX
  have H3:=Lib.hid (H2.out.below hb)
  have B3:=Lib.hid (B2.out.below hb)
  have L3:=Lib.hid (L2.out.trans (hb.mono L2.out.size))
  have LOX:=Lib.hid (lo_own hX (Nat.le_of_lt H2.out.g_lt))
  clear hX hb H2 B2 L2
  refine hK.out _ _ (by obtain⟨a,b,d,-⟩:=hcellj _ j y HY.out H3.out B3.out;exact⟨a,b⟩) (fun hHeld2=> ?_)
  clear hK K
  (try simp only[Act.put,List.setIfInBounds_toArray,List.set_cons_zero,List.set_cons_succ])
  have RX3:=Lib.hid (gave_row RX.out (by have:=RX.out.len;have:=HVL.out;omega)).1
  have HSj:=Lib.hid (H3.out.store ⟨v,X,q⟩ HY.out RX3.out LOX.out)
  have HZj:=Lib.hid (Box.but B3.out (But.set3 (But.refl k.q w3) (k.o+j*3) (k.o+j*3+1) (k.o+j*3+2) (.int .i64 v.st) (.int .i64 v.fc) (.slice X v.data.length q)) hq.out)
  have HBj:=Lib.hid (But.set3 (But.of_below (q:=k.q) L3.out) (k.o+j*3) (k.o+j*3+1) (k.o+j*3+2) (.int .i64 v.st) (.int .i64 v.fc) (.slice X v.data.length q))
  have RZ3:=Lib.hid (R.out.below L3.out)
  refine Reg.tk 15 rfl ?_
  refine Reg.tk 16 rfl ?_
  refine Reg.tk 17 rfl ?_
  refine Reg.tk 18 rfl ?_
  refine Reg.step 19 rfl (by kernel_rfl) (by rfl) (fun K hK=> ?_)
  obtain⟨a1,a2,⟨a3,a4,a5⟩,a6,a7,a8⟩:=hcellj _ j y HY.out H3.out B3.out
  go_simp
  have RZ4:=Lib.hid (Row.setNot (Row.setNot (Row.setNot RZ3.out a3 (int_not _) (.int .i64 v.st)) ((World.cell?_setCell_other _ _ _ _ (by simp)).trans a4) (int_not _) (.int .i64 v.fc)) ((World.cell?_setCell_other _ _ _ _ (by simp)).trans ((World.cell?_setCell_other _ _ _ _ (by simp)).trans a5)) (slice_not _ _ _) (.slice X v.data.length q))
  refine hK.out _ _ ⟨HSj.out.cells.2.2.2.1,HZj.out.cells⟩ (fun hHeld2=> ?_)
  clear hK K
  (try simp only[Act.put,List.setIfInBounds_toArray,List.set_cons_zero,List.set_cons_succ])
  refine wpAnyH_done (by kernel_rfl) ?_ _
  clear a1 a2 a3 a4 a5 a6 a7 a8 hHeld hHeld2
  generalize((w3.setCell ⟨k.q,k.o+j*3,none⟩ (.int .i64 v.st)).setCell ⟨k.q,k.o+j*3+1,none⟩ (.int .i64 v.fc)).setCell ⟨k.q,k.o+j*3+2,none⟩ (.slice X v.data.length q)=w4 at*
  go_upto_region 6 with fail
  have H2:Hid (Desk k (xs.set j ⟨v,X,q⟩) w4.drew):=HSj.out.below (Below.refl _ w4).drew
  have B2:Hid (Box w4.drew w.heap.size z D c):=HZj
  have R2:Hid (Row cb w4.drew D z.data.length c z.data):=RZ4.out.drew
  have U2:Hid (But k.q w w4.drew):=HBj.out.trans (But.of_below (Below.refl _ w4).drew)
  obtain⟨x2,hx2⟩:∃x2,(xs.set j ⟨v,X,q⟩)[i]? =some x2:=⟨_,List.getElem?_eq_getElem (by rw[List.length_set];exact hxl)⟩
  clear HSj HZj HBj RZ4 RZ3 H3 B3 L3 RX RX3
  refine wp_region_held_drew (S:=fun W=>W.cell? ⟨k.g,3,none⟩=some (.slice (some ⟨k.q,k.o,none⟩) k.n k.c)∧(W.cell? ⟨w.heap.size,0,none⟩=some (.int .i64 z.st)∧W.cell? ⟨w.heap.size,1,none⟩=some (.int .i64 z.fc)∧W.cell? ⟨w.heap.size,2,none⟩=some (.slice D z.data.length c)))
   (by kernel_rfl) ⟨(hcell _ _ _ hx2 H2.out B2.out).1,(hcell _ _ _ hx2 H2.out B2.out).2.1⟩ (fun hHeld=> ?_)
  generalize w4.drew=w2 at*
  have HS:=Lib.hid (H2.out.store ⟨z,D,c⟩ hx2 R2.out hlo)
  have HZ:=Lib.hid (Box.but B2.out (But.set3 (But.refl k.q w2) (k.o+i*3) (k.o+i*3+1) (k.o+i*3+2) (.int .i64 z.st) (.int .i64 z.fc) (.slice D z.data.length c)) hq.out)
  have HB:=Lib.hid (But.set3 U2.out (k.o+i*3) (k.o+i*3+1) (k.o+i*3+2) (.int .i64 z.st) (.int .i64 z.fc) (.slice D z.data.length c))
  obtain⟨d3,q0,q1,s0,s1,s2⟩:=hcell _ _ _ hx2 H2.out B2.out
  refine Reg.tk 0 rfl ?_
  refine Reg.tk 1 rfl ?_
  refine Reg.tk 2 rfl ?_
  refine Reg.tk 3 rfl ?_
  refine Reg.tk 4 rfl ?_
  refine Reg.tk 5 rfl ?_
  refine Reg.tk 6 rfl ?_
  refine Reg.tk 7 rfl ?_
  refine Reg.step 8 rfl (by kernel_rfl) (by rfl) (fun K hK=> ?_)
  obtain⟨g0,g1,g2⟩:=q1
  go_simp
  refine hK.out _ _ ⟨HS.out.cells.2.2.2.1,HZ.out.cells⟩ (fun hHeld2=> ?_)
  clear hK K
  (try simp only[Act.put,List.setIfInBounds_toArray,List.set_cons_zero,List.set_cons_succ])
  refine wpAnyH_done (by kernel_rfl) ?_ _
  clear d3 q0 g0 g1 g2 s0 s1 s2 hHeld hHeld2
  generalize((w2.setCell ⟨k.q,k.o+i*3,none⟩ (.int .i64 z.st)).setCell ⟨k.q,k.o+i*3+1,none⟩ (.int .i64 z.fc)).setCell ⟨k.q,k.o+i*3+2,none⟩ (.slice D z.data.length c)=w9 at*
  go_wp2_with fail
  go_ret
  exact⟨_,rfl,HS.out,HMP.out X q,HB.out⟩
end Zns
end
section
open Go.RowKit Mem Zon
namespace Zns
theorem Box.row3 {w:World} {b:Nat} {z:Zn} {B:Option Addr} {d:Nat} {A:Option Addr} {m c:Nat} {l:List B8} (h:Box w b z B d) (hr:Row cb w A m c l) (x y:Int) (B':Option Addr) (n' d':Nat):
  Row cb (((w.setCell ⟨b,0,none⟩ (.int .i64 x)).setCell ⟨b,1,none⟩ (.int .i64 y)).setCell ⟨b,2,none⟩ (.slice B' n' d')) A m c l:=by
 have s1:Cells _ b _ _:=Cells.set_ h 0 (.int .i64 x)
 have s2:Cells _ b _ _:=Cells.set_ s1 1 (.int .i64 y)
 have r1:=Row.setNot hr (show _=some (.int .i64 z.st) from Cells.cell h 0) (int_not _) (.int .i64 x)
 have r2:=Row.setNot r1 (show _=some (.int .i64 z.fc) from Cells.cell s1 1) (int_not _) (.int .i64 y)
 exact Row.setNot r2 (show _=some (.slice B z.data.length d) from Cells.cell s2 2) (slice_not _ _ _) _
def CBox (w:World) (b:Nat) (d zone epoch off n:Int) (B:Option Addr) (m c:Nat):Prop:=Cells w b 55 #[.int .i64 d,.int .i64 zone,.int .i64 epoch,.int .i64 off,.int .i64 n,.slice B m c]
theorem CBox.below {w w':World} {b:Nat} {d zone epoch off n:Int} {B:Option Addr} {m c:Nat} (h:CBox w b d zone epoch off n B m c) (hb:Below w.heap.size w w'):CBox w' b d zone epoch off n B m c:=Cells.below h hb
theorem CBox.cells {w:World} {b:Nat} {d zone epoch off n:Int} {B:Option Addr} {m c:Nat} (h:CBox w b d zone epoch off n B m c):
  w.cell? ⟨b,0,none⟩=some (.int .i64 d)∧w.cell? ⟨b,1,none⟩=some (.int .i64 zone)∧w.cell? ⟨b,2,none⟩=some (.int .i64 epoch)∧w.cell? ⟨b,3,none⟩=some (.int .i64 off)∧w.cell? ⟨b,4,none⟩=some (.int .i64 n)∧w.cell? ⟨b,5,none⟩=some (.slice B m c):=
 ⟨Cells.cell h 0,Cells.cell h 1,Cells.cell h 2,Cells.cell h 3,Cells.cell h 4,Cells.cell h 5⟩
theorem act_new (w:World) (x:Cx) (i:Int):
  Hid (Below w.heap.size w ((w.alloc (.cells #[.int .i64 x.c.d,.int .i64 i,.int .i64 x.c.epoch,.int .i64 x.c.off,.int .i64 x.c.n,.slice x.B x.c.b.length x.k] 55)).alloc (.cells #[.int .i64 0,.int .i64 0,.slice none 0 0] 51)))∧Hid (CBox ((w.alloc (.cells #[.int .i64 x.c.d,.int .i64 i,.int .i64 x.c.epoch,.int .i64 x.c.off,.int .i64 x.c.n,.slice x.B x.c.b.length x.k] 55)).alloc (.cells #[.int .i64 0,.int .i64 0,.slice none 0 0] 51)) w.heap.size x.c.d i x.c.epoch x.c.off x.c.n x.B x.c.b.length x.k)∧Hid (EBox ((w.alloc (.cells #[.int .i64 x.c.d,.int .i64 i,.int .i64 x.c.epoch,.int .i64 x.c.off,.int .i64 x.c.n,.slice x.B x.c.b.length x.k] 55)).alloc (.cells #[.int .i64 0,.int .i64 0,.slice none 0 0] 51)) (w.heap.size+1) 0 0 none 0 0):=
 ⟨((Below.refl w.heap.size w).alloc (Nat.le_refl _) _).alloc (by simp) _,heap_alloc2_old w _ _,heap_alloc2_new w _ _⟩
end Zns
end
section
open Go.RowKit Mem Zon
namespace Zns
theorem putO_err (op ac:Int) (zs:List Zn) (i:Nat) (z:Zn):(putO op ac zs i z).2≠0→(putO op ac zs i z).1=zs:=by
 unfold putO
 rcases e:((toCl op ac zs (atI zs i)).2==0)
 ·intro _;rfl
 ·intro h;exact absurd rfl h
theorem appRes_small (z:Zn) (most:Int) (b:List B8):(appRes z most b).data.length≤65536:=by
 unfold appRes
 rcases e:(appErr z most b.length==0)
 ·exact Nat.zero_le _
 ·obtain⟨h1,-,-,h4⟩:=appErr_zero (beq_iff_eq.1 e)
  obtain⟨-,p2,-,-,-⟩:=ok_parts h1
  simp only[cond_true]
  unfold appZ
  unfold Zn.len at h4
  rw[List.length_append]
  omega
theorem tornZ_small (z:Zn) (most:Int) (b:List B8) (keep:Int):(tornZ z most b keep).data.length≤65536:=by
 unfold tornZ
 rcases e:(tornErr z most b keep==0)
 ·exact Nat.zero_le _
 ·have e':=e
  unfold tornErr at e'
  rcases e2:(appErr z most b.length==0)
  ·rw[e2,cond_false] at e'
   rw[e'] at e2;cases e2
  ·obtain⟨h1,-,-,h4⟩:=appErr_zero (beq_iff_eq.1 e2)
   obtain⟨-,p2,-,-,p5⟩:=ok_parts h1
   unfold Zn.len at h4 p5
   simp only[cond_true]
   rcases(keep==0)
   ·simp only[cond_false]
    unfold appZ
    rw[List.length_append,List.length_take]
    omega
   ·simp only[cond_true]
    omega
theorem open_act {k:Dk} {xs:List Zv} {w:World} {i:Nat} {v:Zv} {x:Cx} (h:Desk k xs w) (hv:xs[i]? =some v) (hzi:x.c.zone=(i:Int)):
  Calls Tryz.prog 115 #[.pointer (some ⟨k.g,0,none⟩),cxv x] w (Acted k w (openP k.cap k.op k.ac (xs.map Zv.z) i)):=by
 have H0:=Lib.hid h
 have hi0:(0:Int)≤(i:Int):=by omega
 have hi1:(i:Int)<(k.n:Int):=by have:=(List.getElem?_eq_some_iff.1 hv).1;have:=h.len;omega
 obtain⟨L1,C1,N1⟩:=act_new w x i
 have H1:=Lib.hid (h.below L1.out)
 have HV:=Lib.hid hv
 have HA:=Lib.hid (atI_of hv)
 have hcell:=fun W (h:Desk k xs W) (hb:CBox W w.heap.size x.c.d i x.c.epoch x.c.off x.c.n x.B x.c.b.length x.k)=>And.intro (And.intro h.cells.1 h.cells.2.2.2.1) (And.intro (CBox.cells hb).2 (h.elem hv))
 have HC:=fun w (h:Row cb w v.D v.z.data.length v.c v.z.data)=>Lib.hid (open_any k.cap h)
 have HP:=fun w (z:Zn) D c (h:Desk k xs w) (hr:Row cb w D z.data.length c z.data) (hlo:Lo k.g D)=>Lib.hid (putOpen_any z D c h hv hr hlo)
 have HZL:Hid ((openZ v.z k.cap).data.length≤140737488351232):=by
  show _≤_
  have:=(h.data_at hv).big
  unfold openZ
  rcases(openErr v.z k.cap==0)
  ·exact Nat.zero_le _
  ·exact this
 clear h hv
 unfold cxv
 rw[hzi]
 have HPL:=Lib.hid (show(bif openErr v.z k.cap==0 then((putO k.op k.ac (xs.map Zv.z) i (openZ v.z k.cap)).1,fail_ (putO k.op k.ac (xs.map Zv.z) i (openZ v.z k.cap)).2) else(xs.map Zv.z,fail_ (openErr v.z k.cap)))=openP k.cap k.op k.ac (xs.map Zv.z) i by unfold openP;rw[HA.out])
 generalize openP k.cap k.op k.ac (xs.map Zv.z) i=rr at*
 generalize openErr v.z k.cap=er at*
 generalize openZ v.z k.cap=zz at*
 unfold zv GaveZ PutO at*
 go_enter Tryz.func115,Tryz.ntmps115
 go_upto_region 1 with fail
 generalize(w.alloc (.cells #[.int .i64 x.c.d,.int .i64 (i:Int),.int .i64 x.c.epoch,.int .i64 x.c.off,.int .i64 x.c.n,.slice x.B x.c.b.length x.k] 55)).alloc (.cells #[.int .i64 0,.int .i64 0,.slice none 0 0] 51)=w1 at*
 go_cut [5,6] (fun s t wx=>∃gz X q,s= .pointer (some ⟨gz,0,none⟩)∧t= .int .i64 er∧Hid (Box wx gz zz X q∧Row cb wx X zz.data.length q zz.data∧Below w1.heap.size w1 wx∧Lo k.g X))
 case first=>
  have H2:Hid (Desk k xs w1.drew):=H1.out.below (Below.refl _ w1).drew
  have C2:Hid (CBox w1.drew w.heap.size x.c.d i x.c.epoch x.c.off x.c.n x.B x.c.b.length x.k):=C1
  have L2:Hid (Below w1.heap.size w1 w1.drew):=(Below.refl _ w1).drew
  refine wp_region_held_drew (S:=fun W=>(W.cell? ⟨k.g,0,none⟩=some (.int .i64 k.cap)∧W.cell? ⟨k.g,3,none⟩=some (.slice (some ⟨k.q,k.o,none⟩) k.n k.c))∧(W.cell? ⟨w.heap.size,1,none⟩=some (.int .i64 (i:Int))∧W.cell? ⟨w.heap.size,2,none⟩=some (.int .i64 x.c.epoch)∧W.cell? ⟨w.heap.size,3,none⟩=some (.int .i64 x.c.off)∧W.cell? ⟨w.heap.size,4,none⟩=some (.int .i64 x.c.n)∧W.cell? ⟨w.heap.size,5,none⟩=some (.slice x.B x.c.b.length x.k))∧(W.cell? ⟨k.q,k.o+i*3,none⟩=some (.int .i64 v.z.st)∧W.cell? ⟨k.q,k.o+i*3+1,none⟩=some (.int .i64 v.z.fc)∧W.cell? ⟨k.q,k.o+i*3+2,none⟩=some (.slice v.D v.z.data.length v.c)))
   (by kernel_rfl) (hcell _ H2.out C2.out) (fun hHeld=> ?_)
  generalize w1.drew=w2 at*
  refine Reg.tk 0 rfl ?_
  refine Reg.tk 1 rfl ?_
  refine Reg.tk 2 rfl ?_
  refine Reg.tk 3 rfl ?_
  refine Reg.tk 4 rfl ?_
  refine Reg.tk 5 rfl ?_
  refine Reg.tk 6 rfl ?_
  refine Reg.tk 7 rfl ?_
  refine Reg.tk 8 rfl ?_
  refine Reg.tk 9 rfl ?_
  refine Reg.tk 10 rfl ?_
  refine Reg.tk 11 rfl ?_
  refine Reg.tk 12 rfl ?_
  refine Reg.tk 13 rfl ?_
  refine Reg.step2 14 18 rfl rfl (by kernel_rfl) (by rfl) (by rfl) (fun K hK=> ?_) (fun K hK=> ?_)
  ·go_simp
   refine(HC w2 (H2.out.data_at HV.out)).out.mono ?_
   rintro e w3 ⟨X,q,rfl,hX,hb⟩
   have LO:=Lib.hid (lo_own hX (Nat.le_of_lt H2.out.g_lt))
   unfold zv
   have RX:=Lib.hid hX
   have H3:=Lib.hid (H2.out.below hb)
   have C3:=Lib.hid (CBox.below C2.out hb)
   have L3:=Lib.hid (L2.out.trans (hb.mono L2.out.size))
   clear hX hb H2 C2 L2
   refine hK.out _ _ (hcell _ H3.out C3.out) (fun hHeld2=> ?_)
   clear hK K
   (try simp only[Act.put,List.setIfInBounds_toArray,List.set_cons_zero,List.set_cons_succ])
   refine Reg.tk 15 rfl ?_
   refine Reg.tk 16 rfl ?_
   refine Reg.tk 17 rfl ?_
   refine Reg.step 18 rfl (by kernel_rfl) (by rfl) (fun K hK=> ?_)
   go_simp
   have b4:Below w3.heap.size w3 (w3.alloc (.cells #[.int .i64 0,.int .i64 0,.slice none 0 0] 46)):=(Below.refl _ w3).alloc (Nat.le_refl _) _
   refine hK.out _ _ (hcell _ (H3.out.below b4) (CBox.below C3.out b4)) (fun hHeld2=> ?_)
   clear hK K b4
   (try simp only[Act.put,List.setIfInBounds_toArray,List.set_cons_zero,List.set_cons_succ])
   refine Reg.step 19 rfl (by kernel_rfl) (by rfl) (fun K hK=> ?_)
   go_simp
   have b4:Below w3.heap.size w3 (w3.alloc (.cells #[.int .i64 zz.st,.int .i64 zz.fc,.slice X zz.data.length q] 46)):=(Below.refl _ w3).alloc (Nat.le_refl _) _
   have Z4:Hid (Box (w3.alloc (.cells #[.int .i64 zz.st,.int .i64 zz.fc,.slice X zz.data.length q] 46)) w3.heap.size zz X q):=Box.new w3 zz X q
   have R4:=Lib.hid (Row.below (gave_row RX.out HZL.out).1 b4)
   have L4:=Lib.hid (L3.out.trans (b4.mono L3.out.size))
   refine hK.out _ _ (hcell _ (H3.out.below b4) (CBox.below C3.out b4)) (fun hHeld2=> ?_)
   clear hK K b4
   (try simp only[Act.put,List.setIfInBounds_toArray,List.set_cons_zero,List.set_cons_succ])
   refine Reg.tk 20 rfl ?_
   refine wpAnyH_done (by kernel_rfl) ?_ _
   go_wp2_with fail
   go_meet
   exact⟨_,X,q,rfl,rfl,Z4.out,R4.out,L4.out,LO.out⟩
  ·go_simp
   have b3:Below w2.heap.size w2 (w2.alloc (.cells #[.int .i64 0,.int .i64 0,.slice none 0 0] 46)):=(Below.refl _ w2).alloc (Nat.le_refl _) _
   have Y3:Hid (Box (w2.alloc (.cells #[.int .i64 0,.int .i64 0,.slice none 0 0] 46)) w2.heap.size nilZ none 0):=Box.new w2 nilZ none 0
   have G3:Hid (w1.heap.size≤w2.heap.size):=L2.out.size
   have H3:=Lib.hid (H2.out.below b3)
   have C3:=Lib.hid (CBox.below C2.out b3)
   have L3:=Lib.hid (L2.out.trans (b3.mono L2.out.size))
   refine hK.out _ _ (hcell _ H3.out C3.out) (fun hHeld2=> ?_)
   have hg2:Hid (k.g<w2.heap.size∧k.q<w2.heap.size∧w.heap.size<w2.heap.size):=⟨H2.out.g_lt,H2.out.q_lt,Cells.lt C2.out⟩
   clear hK K b3 H2 C2 L2
   (try simp only[Act.put,List.setIfInBounds_toArray,List.set_cons_zero,List.set_cons_succ])
   generalize w2.alloc (.cells #[.int .i64 0,.int .i64 0,.slice none 0 0] 46)=w3 at*
   generalize w2.heap.size=g2 at*
   refine Reg.step 14 rfl (by kernel_rfl) (by rfl) (fun K hK=> ?_)
   go_simp
   refine(HC w3 (H3.out.data_at HV.out)).out.mono ?_
   rintro e w4 ⟨X,q,rfl,hX,hb⟩
   have LO:=Lib.hid (lo_own hX (Nat.le_of_lt H3.out.g_lt))
   unfold zv
   have R4:=Lib.hid (gave_row hX HZL.out).1
   have H4:=Lib.hid (H3.out.below hb)
   have C4:=Lib.hid (CBox.below C3.out hb)
   have L4:=Lib.hid (L3.out.trans (hb.mono L3.out.size))
   have Y4:=Lib.hid (Y3.out.below hb)
   clear hX hb H3 C3 L3 Y3
   refine hK.out _ _ (hcell _ H4.out C4.out) (fun hHeld2=> ?_)
   clear hK K
   (try simp only[Act.put,List.setIfInBounds_toArray,List.set_cons_zero,List.set_cons_succ])
   refine Reg.tk 15 rfl ?_
   refine Reg.tk 16 rfl ?_
   refine Reg.tk 17 rfl ?_
   refine Reg.step 19 rfl (by kernel_rfl) (by rfl) (fun K hK=> ?_)
   obtain⟨f0,f1,f2⟩:=Y4.out.frozen
   obtain⟨n0,n1,n2⟩:=Y4.out.cells
   go_simp
   have L5:=Lib.hid (below3 (g:=g2) L4.out G3.out (.int .i64 zz.st) (.int .i64 zz.fc) (.slice X zz.data.length q))
   have Z5:=Lib.hid (Box.store Y4.out zz X q)
   have R5:=Lib.hid (Box.row3 Y4.out R4.out zz.st zz.fc X zz.data.length q)
   have H5:=Lib.hid (H1.out.below L5.out)
   have C5:=Lib.hid (CBox.below C1.out L5.out)
   clear n0 n1 n2 f0 f1 f2
   refine hK.out _ _ (hcell _ H5.out C5.out) (fun hHeld2=> ?_)
   clear hK K
   (try simp only[Act.put,List.setIfInBounds_toArray,List.set_cons_zero,List.set_cons_succ])
   refine Reg.tk 20 rfl ?_
   refine wpAnyH_done (by kernel_rfl) ?_ _
   go_wp2_with fail
   go_meet
   exact⟨_,X,q,rfl,rfl,Z5.out,R5.out,L5.out,LO.out⟩
 case rest=>
  obtain⟨gz,X,q,rfl,rfl,hP⟩:=hcut
  have Z2:=Lib.hid hP.out.1
  have R2:=Lib.hid hP.out.2.1
  have LO2:=Lib.hid hP.out.2.2.2
  have H2:=Lib.hid (H1.out.below hP.out.2.2.1)
  have N2:=Lib.hid (EBox.below N1.out hP.out.2.2.1)
  have L2:=Lib.hid (L1.out.trans (hP.out.2.2.1.mono L1.out.size))
  have B2:=Lib.hid (But.of_below (q:=k.q) L2.out)
  have C2:=Lib.hid (CBox.below C1.out hP.out.2.2.1)
  clear hP C1 H1 L1 N1
  generalize wc=w2 at*
  clear hcell HC
  rcases e1:(er==0)
  ·rw[e1,cond_false] at HPL
   obtain⟨n0,n1,n2⟩:=N2.out.cells
   obtain⟨f0,f1,f2⟩:=N2.out.frozen
   go_wp2_with fail
   refine bodyPost_ret_by (results_cell_row rfl _ _ (w.heap.size+1) _ _ _ _ rfl (EBox.store N2.out er 0 none 0 0) Tryz.underlying51 rfl (by kernel_rfl)) rfl ?_
   rw[←HPL.out]
   exact acted_end H0.out H2.out N2.out (by omega) B2.out ⟨er,0,[]⟩ none 0 (Away.nil _ _) rfl rfl
  ·rw[e1,cond_true] at HPL
   obtain⟨c0,c1,c2⟩:=Z2.out.cells
   obtain⟨y0,y1,y2,y3,y4,y5⟩:=CBox.cells C2.out
   go_wp2_with fail
   refine(HP w2 zz X q H2.out R2.out LO2.out).out.mono ?_
   rintro e w3 ⟨xs',rfl,hD,hz,hB⟩
   have N3:=Lib.hid (EBox.but N2.out hB (by have:=H0.out.q_lt;omega))
   have D3:=Lib.hid hD
   have B3:=Lib.hid (But.trans B2.out hB)
   have M3:=Lib.hid hz
   clear hB hD hz c0 c1 c2 y0 y1 y2 y3 y4 y5 HP
   obtain⟨n0,n1,n2⟩:=N3.out.cells
   obtain⟨f0,f1,f2⟩:=N3.out.frozen
   go_wp2_with fail
   refine bodyPost_ret_by (results_cell_row rfl _ _ (w.heap.size+1) _ _ _ _ rfl (EBox.store N3.out (putO k.op k.ac (xs.map Zv.z) i zz).2 0 none 0 0) Tryz.underlying51 rfl (by kernel_rfl)) rfl ?_
   rw[←HPL.out]
   exact acted_end H0.out D3.out N3.out (by omega) B3.out ⟨(putO k.op k.ac (xs.map Zv.z) i zz).2,0,[]⟩ none 0 (Away.nil _ _) M3.out rfl
theorem add_act {k:Dk} {xs:List Zv} {w:World} {i:Nat} {v:Zv} {x:Cx} (h:Desk k xs w) (hv:xs[i]? =some v) (hc:CmdAt w x) (hzi:x.c.zone=(i:Int)):
  Calls Tryz.prog 110 #[.pointer (some ⟨k.g,0,none⟩),cxv x] w (Acted k w (addP k.cap k.op k.ac (xs.map Zv.z) i x.c)):=by
 have H0:=Lib.hid h
 have hi0:(0:Int)≤(i:Int):=by omega
 have hi1:(i:Int)<(k.n:Int):=by have:=(List.getElem?_eq_some_iff.1 hv).1;have:=h.len;omega
 obtain⟨L1,C1,N1⟩:=act_new w x i
 have H1:=Lib.hid (h.below L1.out)
 have HV:=Lib.hid hv
 have HA:=Lib.hid (atI_of hv)
 have hcell:=fun W (h:Desk k xs W) (hb:CBox W w.heap.size x.c.d i x.c.epoch x.c.off x.c.n x.B x.c.b.length x.k)=>And.intro (And.intro h.cells.1 h.cells.2.2.2.1) (And.intro (CBox.cells hb).2 (h.elem hv))
 have RB:=Lib.hid hc.row
 have HC:=fun w (h:Row cb w v.D v.z.data.length v.c v.z.data) (h2:Row cb w x.B x.c.b.length x.k x.c.b)=>Lib.hid (append_any (most:=k.cap) h h2)
 have HP:=fun w (z:Zn) D c (h:Desk k xs w) (hr:Row cb w D z.data.length c z.data) (hlo:Lo k.g D)=>Lib.hid (putOpen_any z D c h hv hr hlo)
 have HZL:Hid ((appRes v.z k.cap x.c.b).data.length≤140737488351232):=by
  have:=appRes_small v.z k.cap x.c.b
  show _≤_
  omega
 clear h hv hc
 unfold cxv
 rw[hzi]
 have HPL:=Lib.hid (show(bif appErr v.z k.cap x.c.b.length==0 then(bif (putO k.op k.ac (xs.map Zv.z) i (appRes v.z k.cap x.c.b)).2==0 then((putO k.op k.ac (xs.map Zv.z) i (appRes v.z k.cap x.c.b)).1,⟨0,appAt v.z k.cap x.c.b.length,[]⟩) else(xs.map Zv.z,fail_ (putO k.op k.ac (xs.map Zv.z) i (appRes v.z k.cap x.c.b)).2)) else(xs.map Zv.z,fail_ (appErr v.z k.cap x.c.b.length)))=addP k.cap k.op k.ac (xs.map Zv.z) i x.c by
  unfold addP appRes appAt
  rw[HA.out]
  rcases(appErr v.z k.cap x.c.b.length==0)<;>rfl)
 have HQ:=Lib.hid (putO_err k.op k.ac (xs.map Zv.z) i (appRes v.z k.cap x.c.b))
 generalize addP k.cap k.op k.ac (xs.map Zv.z) i x.c=rr at*
 generalize appErr v.z k.cap x.c.b.length=er at*
 generalize appAt v.z k.cap x.c.b.length=at_ at*
 generalize appRes v.z k.cap x.c.b=zz at*
 unfold zv GaveZ PutO at*
 go_enter Tryz.func110,Tryz.ntmps110
 go_upto_region 1 with fail
 generalize(w.alloc (.cells #[.int .i64 x.c.d,.int .i64 (i:Int),.int .i64 x.c.epoch,.int .i64 x.c.off,.int .i64 x.c.n,.slice x.B x.c.b.length x.k] 55)).alloc (.cells #[.int .i64 0,.int .i64 0,.slice none 0 0] 51)=w1 at*
 go_cut [5,6,7] (fun s s6 t wx=>∃gz X q,s= .pointer (some ⟨gz,0,none⟩)∧s6= .int .i64 at_∧t= .int .i64 er∧Hid (Box wx gz zz X q∧Row cb wx X zz.data.length q zz.data∧Below w1.heap.size w1 wx∧Lo k.g X))
 case first=>
  have H2:Hid (Desk k xs w1.drew):=H1.out.below (Below.refl _ w1).drew
  have C2:Hid (CBox w1.drew w.heap.size x.c.d i x.c.epoch x.c.off x.c.n x.B x.c.b.length x.k):=C1
  have L2:Hid (Below w1.heap.size w1 w1.drew):=(Below.refl _ w1).drew
  refine wp_region_held_drew (S:=fun W=>(W.cell? ⟨k.g,0,none⟩=some (.int .i64 k.cap)∧W.cell? ⟨k.g,3,none⟩=some (.slice (some ⟨k.q,k.o,none⟩) k.n k.c))∧(W.cell? ⟨w.heap.size,1,none⟩=some (.int .i64 (i:Int))∧W.cell? ⟨w.heap.size,2,none⟩=some (.int .i64 x.c.epoch)∧W.cell? ⟨w.heap.size,3,none⟩=some (.int .i64 x.c.off)∧W.cell? ⟨w.heap.size,4,none⟩=some (.int .i64 x.c.n)∧W.cell? ⟨w.heap.size,5,none⟩=some (.slice x.B x.c.b.length x.k))∧(W.cell? ⟨k.q,k.o+i*3,none⟩=some (.int .i64 v.z.st)∧W.cell? ⟨k.q,k.o+i*3+1,none⟩=some (.int .i64 v.z.fc)∧W.cell? ⟨k.q,k.o+i*3+2,none⟩=some (.slice v.D v.z.data.length v.c)))
   (by kernel_rfl) (hcell _ H2.out C2.out) (fun hHeld=> ?_)
  generalize w1.drew=w2 at*
  refine Reg.tk 0 rfl ?_
  refine Reg.tk 1 rfl ?_
  refine Reg.tk 2 rfl ?_
  refine Reg.tk 3 rfl ?_
  refine Reg.tk 4 rfl ?_
  refine Reg.tk 5 rfl ?_
  refine Reg.tk 6 rfl ?_
  refine Reg.tk 7 rfl ?_
  refine Reg.tk 8 rfl ?_
  refine Reg.tk 9 rfl ?_
  refine Reg.tk 10 rfl ?_
  refine Reg.tk 11 rfl ?_
  refine Reg.tk 12 rfl ?_
  refine Reg.tk 13 rfl ?_
  refine Reg.tk 14 rfl ?_
  refine Reg.tk 15 rfl ?_
  refine Reg.step2 16 21 rfl rfl (by kernel_rfl) (by rfl) (by rfl) (fun K hK=> ?_) (fun K hK=> ?_)
  ·go_simp
   refine(HC w2 (H2.out.data_at HV.out) ((RB.out.below L1.out).below L2.out)).out.mono ?_
   rintro e w3 ⟨X,q,rfl,hX,hb⟩
   have LO:=Lib.hid (lo_own hX (Nat.le_of_lt H2.out.g_lt))
   unfold zv
   have RX:=Lib.hid hX
   have H3:=Lib.hid (H2.out.below hb)
   have C3:=Lib.hid (CBox.below C2.out hb)
   have L3:=Lib.hid (L2.out.trans (hb.mono L2.out.size))
   clear hX hb H2 C2 L2
   refine hK.out _ _ (hcell _ H3.out C3.out) (fun hHeld2=> ?_)
   clear hK K
   (try simp only[Act.put,List.setIfInBounds_toArray,List.set_cons_zero,List.set_cons_succ])
   refine Reg.tk 17 rfl ?_
   refine Reg.tk 18 rfl ?_
   refine Reg.tk 19 rfl ?_
   refine Reg.tk 20 rfl ?_
   refine Reg.step 21 rfl (by kernel_rfl) (by rfl) (fun K hK=> ?_)
   go_simp
   have b4:Below w3.heap.size w3 (w3.alloc (.cells #[.int .i64 0,.int .i64 0,.slice none 0 0] 46)):=(Below.refl _ w3).alloc (Nat.le_refl _) _
   refine hK.out _ _ (hcell _ (H3.out.below b4) (CBox.below C3.out b4)) (fun hHeld2=> ?_)
   clear hK K b4
   (try simp only[Act.put,List.setIfInBounds_toArray,List.set_cons_zero,List.set_cons_succ])
   refine Reg.step 22 rfl (by kernel_rfl) (by rfl) (fun K hK=> ?_)
   go_simp
   have b4:Below w3.heap.size w3 (w3.alloc (.cells #[.int .i64 zz.st,.int .i64 zz.fc,.slice X zz.data.length q] 46)):=(Below.refl _ w3).alloc (Nat.le_refl _) _
   have Z4:Hid (Box (w3.alloc (.cells #[.int .i64 zz.st,.int .i64 zz.fc,.slice X zz.data.length q] 46)) w3.heap.size zz X q):=Box.new w3 zz X q
   have R4:=Lib.hid (Row.below (gave_row RX.out HZL.out).1 b4)
   have L4:=Lib.hid (L3.out.trans (b4.mono L3.out.size))
   refine hK.out _ _ (hcell _ (H3.out.below b4) (CBox.below C3.out b4)) (fun hHeld2=> ?_)
   clear hK K b4
   (try simp only[Act.put,List.setIfInBounds_toArray,List.set_cons_zero,List.set_cons_succ])
   refine Reg.tk 23 rfl ?_
   refine Reg.tk 24 rfl ?_
   refine wpAnyH_done (by kernel_rfl) ?_ _
   go_wp2_with fail
   go_meet
   exact⟨_,X,q,rfl,rfl,rfl,Z4.out,R4.out,L4.out,LO.out⟩
  ·go_simp
   have b3:Below w2.heap.size w2 (w2.alloc (.cells #[.int .i64 0,.int .i64 0,.slice none 0 0] 46)):=(Below.refl _ w2).alloc (Nat.le_refl _) _
   have Y3:Hid (Box (w2.alloc (.cells #[.int .i64 0,.int .i64 0,.slice none 0 0] 46)) w2.heap.size nilZ none 0):=Box.new w2 nilZ none 0
   have G3:Hid (w1.heap.size≤w2.heap.size):=L2.out.size
   have H3:=Lib.hid (H2.out.below b3)
   have C3:=Lib.hid (CBox.below C2.out b3)
   have L3:=Lib.hid (L2.out.trans (b3.mono L2.out.size))
   refine hK.out _ _ (hcell _ H3.out C3.out) (fun hHeld2=> ?_)
   have hg2:Hid (k.g<w2.heap.size∧k.q<w2.heap.size∧w.heap.size<w2.heap.size):=⟨H2.out.g_lt,H2.out.q_lt,Cells.lt C2.out⟩
   clear hK K b3 H2 C2 L2
   (try simp only[Act.put,List.setIfInBounds_toArray,List.set_cons_zero,List.set_cons_succ])
   generalize w2.alloc (.cells #[.int .i64 0,.int .i64 0,.slice none 0 0] 46)=w3 at*
   generalize w2.heap.size=g2 at*
   refine Reg.step 16 rfl (by kernel_rfl) (by rfl) (fun K hK=> ?_)
   go_simp
   refine(HC w3 (H3.out.data_at HV.out) ((RB.out.below L1.out).below L3.out)).out.mono ?_
   rintro e w4 ⟨X,q,rfl,hX,hb⟩
   have LO:=Lib.hid (lo_own hX (Nat.le_of_lt H3.out.g_lt))
   unfold zv
   have R4:=Lib.hid (gave_row hX HZL.out).1
   have H4:=Lib.hid (H3.out.below hb)
   have C4:=Lib.hid (CBox.below C3.out hb)
   have L4:=Lib.hid (L3.out.trans (hb.mono L3.out.size))
   have Y4:=Lib.hid (Y3.out.below hb)
   clear hX hb H3 C3 L3 Y3
   refine hK.out _ _ (hcell _ H4.out C4.out) (fun hHeld2=> ?_)
   clear hK K
   (try simp only[Act.put,List.setIfInBounds_toArray,List.set_cons_zero,List.set_cons_succ])
   refine Reg.tk 17 rfl ?_
   refine Reg.tk 18 rfl ?_
   refine Reg.tk 19 rfl ?_
   refine Reg.tk 20 rfl ?_
   refine Reg.step 22 rfl (by kernel_rfl) (by rfl) (fun K hK=> ?_)
   obtain⟨f0,f1,f2⟩:=Y4.out.frozen
   obtain⟨n0,n1,n2⟩:=Y4.out.cells
   go_simp
   have L5:=Lib.hid (below3 (g:=g2) L4.out G3.out (.int .i64 zz.st) (.int .i64 zz.fc) (.slice X zz.data.length q))
   have Z5:=Lib.hid (Box.store Y4.out zz X q)
   have R5:=Lib.hid (Box.row3 Y4.out R4.out zz.st zz.fc X zz.data.length q)
   have H5:=Lib.hid (H1.out.below L5.out)
   have C5:=Lib.hid (CBox.below C1.out L5.out)
   clear n0 n1 n2 f0 f1 f2
   refine hK.out _ _ (hcell _ H5.out C5.out) (fun hHeld2=> ?_)
   clear hK K
   (try simp only[Act.put,List.setIfInBounds_toArray,List.set_cons_zero,List.set_cons_succ])
   refine Reg.tk 23 rfl ?_
   refine Reg.tk 24 rfl ?_
   refine wpAnyH_done (by kernel_rfl) ?_ _
   go_wp2_with fail
   go_meet
   exact⟨_,X,q,rfl,rfl,rfl,Z5.out,R5.out,L5.out,LO.out⟩
 case rest=>
  obtain⟨gz,X,q,rfl,rfl,rfl,hP⟩:=hcut
  have Z2:=Lib.hid hP.out.1
  have R2:=Lib.hid hP.out.2.1
  have LO2:=Lib.hid hP.out.2.2.2
  have H2:=Lib.hid (H1.out.below hP.out.2.2.1)
  have N2:=Lib.hid (EBox.below N1.out hP.out.2.2.1)
  have L2:=Lib.hid (L1.out.trans (hP.out.2.2.1.mono L1.out.size))
  have B2:=Lib.hid (But.of_below (q:=k.q) L2.out)
  have C2:=Lib.hid (CBox.below C1.out hP.out.2.2.1)
  clear hP C1 H1 L1 N1
  generalize wc=w2 at*
  clear hcell HC
  rcases e1:(er==0)
  ·rw[e1,cond_false] at HPL
   have e2:(er !=0)=true:=by rw[bne,e1];rfl
   obtain⟨n0,n1,n2⟩:=N2.out.cells
   obtain⟨f0,f1,f2⟩:=N2.out.frozen
   go_wp2_with fail
   refine bodyPost_ret_by (results_cell_row rfl _ _ (w.heap.size+1) _ _ _ _ rfl (EBox.store N2.out er 0 none 0 0) Tryz.underlying51 rfl (by kernel_rfl)) rfl ?_
   rw[←HPL.out]
   exact acted_end H0.out H2.out N2.out (by omega) B2.out ⟨er,0,[]⟩ none 0 (Away.nil _ _) rfl rfl
  ·rw[e1,cond_true] at HPL
   obtain rfl:er=0:=beq_iff_eq.1 e1
   generalize hpe:(putO k.op k.ac (xs.map Zv.z) i zz).2=pe at*
   obtain⟨c0,c1,c2⟩:=Z2.out.cells
   obtain⟨y0,y1,y2,y3,y4,y5⟩:=CBox.cells C2.out
   go_wp2_with fail
   refine(HP w2 zz X q H2.out R2.out LO2.out).out.mono ?_
   rintro e w3 ⟨xs',rfl,hD,hz,hB⟩
   have N3:=Lib.hid (EBox.but N2.out hB (by have:=H0.out.q_lt;omega))
   have D3:=Lib.hid hD
   have B3:=Lib.hid (But.trans B2.out hB)
   have M3:=Lib.hid hz
   clear hB hD hz c0 c1 c2 y0 y1 y2 y3 y4 y5 HP
   rcases e3:(pe==0)
   ·rw[e3,cond_false] at HPL
    have e4:(pe !=0)=true:=by rw[bne,e3];rfl
    have M4:=Lib.hid (M3.out.trans (HQ.out (beq_eq_false_iff_ne.1 e3)))
    obtain⟨n0,n1,n2⟩:=N3.out.cells
    obtain⟨f0,f1,f2⟩:=N3.out.frozen
    go_wp2_with fail
    refine bodyPost_ret_by (results_cell_row rfl _ _ (w.heap.size+1) _ _ _ _ rfl (EBox.store N3.out pe 0 none 0 0) Tryz.underlying51 rfl (by kernel_rfl)) rfl ?_
    rw[←HPL.out]
    exact acted_end H0.out D3.out N3.out (by omega) B3.out ⟨pe,0,[]⟩ none 0 (Away.nil _ _) M4.out rfl
   ·rw[e3,cond_true] at HPL
    have e4:(pe !=0)=false:=by rw[bne,e3];rfl
    obtain⟨n0,n1,n2⟩:=N3.out.cells
    obtain⟨f0,f1,f2⟩:=N3.out.frozen
    go_wp2_with fail
    refine bodyPost_ret_by (results_cell_row rfl _ _ (w.heap.size+1) _ _ _ _ rfl (EBox.store N3.out 0 at_ none 0 0) Tryz.underlying51 rfl (by kernel_rfl)) rfl ?_
    rw[←HPL.out]
    exact acted_end H0.out D3.out N3.out (by omega) B3.out ⟨0,at_,[]⟩ none 0 (Away.nil _ _) M3.out rfl
end Zns
end
section
open Go.RowKit Mem Zon
namespace Zns
theorem tear_act {k:Dk} {xs:List Zv} {w:World} {i:Nat} {v:Zv} {x:Cx} (h:Desk k xs w) (hv:xs[i]? =some v) (hc:CmdAt w x) (hzi:x.c.zone=(i:Int)):
  Calls Tryz.prog 111 #[.pointer (some ⟨k.g,0,none⟩),cxv x] w (Acted k w (tearP k.cap k.op k.ac (xs.map Zv.z) i x.c)):=by
 have H0:=Lib.hid h
 have hi0:(0:Int)≤(i:Int):=by omega
 have hi1:(i:Int)<(k.n:Int):=by have:=(List.getElem?_eq_some_iff.1 hv).1;have:=h.len;omega
 obtain⟨L1,C1,N1⟩:=act_new w x i
 have H1:=Lib.hid (h.below L1.out)
 have HV:=Lib.hid hv
 have HA:=Lib.hid (atI_of hv)
 have hcell:=fun W (h:Desk k xs W) (hb:CBox W w.heap.size x.c.d i x.c.epoch x.c.off x.c.n x.B x.c.b.length x.k)=>And.intro (And.intro h.cells.1 h.cells.2.2.2.1) (And.intro (CBox.cells hb).2 (h.elem hv))
 have RB:=Lib.hid hc.row
 have HC:=fun w (h:Row cb w v.D v.z.data.length v.c v.z.data) (h2:Row cb w x.B x.c.b.length x.k x.c.b)=>Lib.hid (append_any (most:=k.cap) h h2)
 have HT:=fun w (h:Row cb w v.D v.z.data.length v.c v.z.data) (h2:Row cb w x.B x.c.b.length x.k x.c.b)=>Lib.hid (torn_any (most:=k.cap) (keep:=x.c.n) h h2)
 have HTC:=fun w (h:Desk k xs w)=>Lib.hid (toClose_any h hv)
 have HP:=fun w (z:Zn) D c (h:Desk k xs w) (hr:Row cb w D z.data.length c z.data) (hlo:Lo k.g D)=>Lib.hid (putOpen_any z D c h hv hr hlo)
 have HZL1:Hid ((appRes v.z k.cap x.c.b).data.length≤140737488351232):=by
  have:=appRes_small v.z k.cap x.c.b
  show _≤_
  omega
 have HZL2:Hid ((tornZ v.z k.cap x.c.b x.c.n).data.length≤140737488351232):=by
  have:=tornZ_small v.z k.cap x.c.b x.c.n
  show _≤_
  omega
 clear h hv hc
 unfold cxv
 rw[hzi]
 have HPL:=Lib.hid (show(bif appErr v.z k.cap x.c.b.length==0 then
  (bif (toCl k.op k.ac (xs.map Zv.z) v.z).2==0 then
   (bif tornErr v.z k.cap x.c.b x.c.n==0 then
    (bif x.c.n==0 then(xs.map Zv.z,fail_ 0) else((putO k.op k.ac (xs.map Zv.z) i (tornZ v.z k.cap x.c.b x.c.n)).1,fail_ (putO k.op k.ac (xs.map Zv.z) i (tornZ v.z k.cap x.c.b x.c.n)).2))
   else(xs.map Zv.z,fail_ (tornErr v.z k.cap x.c.b x.c.n)))
  else(xs.map Zv.z,fail_ (toCl k.op k.ac (xs.map Zv.z) v.z).2))
 else(xs.map Zv.z,fail_ (appErr v.z k.cap x.c.b.length)))=tearP k.cap k.op k.ac (xs.map Zv.z) i x.c by unfold tearP;rw[HA.out])
 generalize tearP k.cap k.op k.ac (xs.map Zv.z) i x.c=rr at*
 generalize appErr v.z k.cap x.c.b.length=er at*
 generalize appAt v.z k.cap x.c.b.length=at_ at*
 generalize tornErr v.z k.cap x.c.b x.c.n=te at*
 generalize(toCl k.op k.ac (xs.map Zv.z) v.z).1=oc at*
 generalize(toCl k.op k.ac (xs.map Zv.z) v.z).2=ce at*
 generalize tornZ v.z k.cap x.c.b x.c.n=zt at*
 generalize appRes v.z k.cap x.c.b=zz at*
 unfold zv GaveZ PutO at*
 go_enter Tryz.func111,Tryz.ntmps111
 go_upto_region 1 with fail
 generalize(w.alloc (.cells #[.int .i64 x.c.d,.int .i64 (i:Int),.int .i64 x.c.epoch,.int .i64 x.c.off,.int .i64 x.c.n,.slice x.B x.c.b.length x.k] 55)).alloc (.cells #[.int .i64 0,.int .i64 0,.slice none 0 0] 51)=w1 at*
 go_cut [7] (fun t wx=>t= .int .i64 er∧Hid (Below w1.heap.size w1 wx))
 case first=>
  have HZL:=HZL1
  have H2:Hid (Desk k xs w1.drew):=H1.out.below (Below.refl _ w1).drew
  have C2:Hid (CBox w1.drew w.heap.size x.c.d i x.c.epoch x.c.off x.c.n x.B x.c.b.length x.k):=C1
  have L2:Hid (Below w1.heap.size w1 w1.drew):=(Below.refl _ w1).drew
  refine wp_region_held_drew (S:=fun W=>(W.cell? ⟨k.g,0,none⟩=some (.int .i64 k.cap)∧W.cell? ⟨k.g,3,none⟩=some (.slice (some ⟨k.q,k.o,none⟩) k.n k.c))∧(W.cell? ⟨w.heap.size,1,none⟩=some (.int .i64 (i:Int))∧W.cell? ⟨w.heap.size,2,none⟩=some (.int .i64 x.c.epoch)∧W.cell? ⟨w.heap.size,3,none⟩=some (.int .i64 x.c.off)∧W.cell? ⟨w.heap.size,4,none⟩=some (.int .i64 x.c.n)∧W.cell? ⟨w.heap.size,5,none⟩=some (.slice x.B x.c.b.length x.k))∧(W.cell? ⟨k.q,k.o+i*3,none⟩=some (.int .i64 v.z.st)∧W.cell? ⟨k.q,k.o+i*3+1,none⟩=some (.int .i64 v.z.fc)∧W.cell? ⟨k.q,k.o+i*3+2,none⟩=some (.slice v.D v.z.data.length v.c)))
   (by kernel_rfl) (hcell _ H2.out C2.out) (fun hHeld=> ?_)
  generalize w1.drew=w2 at*
  refine Reg.tk 0 rfl ?_
  refine Reg.tk 1 rfl ?_
  refine Reg.tk 2 rfl ?_
  refine Reg.tk 3 rfl ?_
  refine Reg.tk 4 rfl ?_
  refine Reg.tk 5 rfl ?_
  refine Reg.tk 6 rfl ?_
  refine Reg.tk 7 rfl ?_
  refine Reg.tk 8 rfl ?_
  refine Reg.tk 9 rfl ?_
  refine Reg.tk 10 rfl ?_
  refine Reg.tk 11 rfl ?_
  refine Reg.tk 12 rfl ?_
  refine Reg.tk 13 rfl ?_
  refine Reg.tk 14 rfl ?_
  refine Reg.tk 15 rfl ?_
  refine Reg.step2 16 21 rfl rfl (by kernel_rfl) (by rfl) (by rfl) (fun K hK=> ?_) (fun K hK=> ?_)
  ·go_simp
   refine(HC w2 (H2.out.data_at HV.out) ((RB.out.below L1.out).below L2.out)).out.mono ?_
   rintro e w3 ⟨X,q,rfl,hX,hb⟩
   have LO:=Lib.hid (lo_own hX (Nat.le_of_lt H2.out.g_lt))
   unfold zv
   have RX:=Lib.hid hX
   have H3:=Lib.hid (H2.out.below hb)
   have C3:=Lib.hid (CBox.below C2.out hb)
   have L3:=Lib.hid (L2.out.trans (hb.mono L2.out.size))
   clear hX hb H2 C2 L2
   refine hK.out _ _ (hcell _ H3.out C3.out) (fun hHeld2=> ?_)
   clear hK K
   (try simp only[Act.put,List.setIfInBounds_toArray,List.set_cons_zero,List.set_cons_succ])
   refine Reg.tk 17 rfl ?_
   refine Reg.tk 18 rfl ?_
   refine Reg.tk 19 rfl ?_
   refine Reg.tk 20 rfl ?_
   refine Reg.step 21 rfl (by kernel_rfl) (by rfl) (fun K hK=> ?_)
   go_simp
   have b4:Below w3.heap.size w3 (w3.alloc (.cells #[.int .i64 0,.int .i64 0,.slice none 0 0] 46)):=(Below.refl _ w3).alloc (Nat.le_refl _) _
   refine hK.out _ _ (hcell _ (H3.out.below b4) (CBox.below C3.out b4)) (fun hHeld2=> ?_)
   clear hK K b4
   (try simp only[Act.put,List.setIfInBounds_toArray,List.set_cons_zero,List.set_cons_succ])
   refine Reg.step 22 rfl (by kernel_rfl) (by rfl) (fun K hK=> ?_)
   go_simp
   have b4:Below w3.heap.size w3 (w3.alloc (.cells #[.int .i64 zz.st,.int .i64 zz.fc,.slice X zz.data.length q] 46)):=(Below.refl _ w3).alloc (Nat.le_refl _) _
   have Z4:Hid (Box (w3.alloc (.cells #[.int .i64 zz.st,.int .i64 zz.fc,.slice X zz.data.length q] 46)) w3.heap.size zz X q):=Box.new w3 zz X q
   have R4:=Lib.hid (Row.below (gave_row RX.out HZL.out).1 b4)
   have L4:=Lib.hid (L3.out.trans (b4.mono L3.out.size))
   refine hK.out _ _ (hcell _ (H3.out.below b4) (CBox.below C3.out b4)) (fun hHeld2=> ?_)
   clear hK K b4
   (try simp only[Act.put,List.setIfInBounds_toArray,List.set_cons_zero,List.set_cons_succ])
   refine Reg.tk 23 rfl ?_
   refine Reg.tk 24 rfl ?_
   refine wpAnyH_done (by kernel_rfl) ?_ _
   go_wp2_with fail
   go_meet
   exact⟨rfl,L4.out⟩
  ·go_simp
   have b3:Below w2.heap.size w2 (w2.alloc (.cells #[.int .i64 0,.int .i64 0,.slice none 0 0] 46)):=(Below.refl _ w2).alloc (Nat.le_refl _) _
   have Y3:Hid (Box (w2.alloc (.cells #[.int .i64 0,.int .i64 0,.slice none 0 0] 46)) w2.heap.size nilZ none 0):=Box.new w2 nilZ none 0
   have G3:Hid (w1.heap.size≤w2.heap.size):=L2.out.size
   have H3:=Lib.hid (H2.out.below b3)
   have C3:=Lib.hid (CBox.below C2.out b3)
   have L3:=Lib.hid (L2.out.trans (b3.mono L2.out.size))
   refine hK.out _ _ (hcell _ H3.out C3.out) (fun hHeld2=> ?_)
   have hg2:Hid (k.g<w2.heap.size∧k.q<w2.heap.size∧w.heap.size<w2.heap.size):=⟨H2.out.g_lt,H2.out.q_lt,Cells.lt C2.out⟩
   clear hK K b3 H2 C2 L2
   (try simp only[Act.put,List.setIfInBounds_toArray,List.set_cons_zero,List.set_cons_succ])
   generalize w2.alloc (.cells #[.int .i64 0,.int .i64 0,.slice none 0 0] 46)=w3 at*
   generalize w2.heap.size=g2 at*
   refine Reg.step 16 rfl (by kernel_rfl) (by rfl) (fun K hK=> ?_)
   go_simp
   refine(HC w3 (H3.out.data_at HV.out) ((RB.out.below L1.out).below L3.out)).out.mono ?_
   rintro e w4 ⟨X,q,rfl,hX,hb⟩
   have LO:=Lib.hid (lo_own hX (Nat.le_of_lt H3.out.g_lt))
   unfold zv
   have R4:=Lib.hid (gave_row hX HZL.out).1
   have H4:=Lib.hid (H3.out.below hb)
   have C4:=Lib.hid (CBox.below C3.out hb)
   have L4:=Lib.hid (L3.out.trans (hb.mono L3.out.size))
   have Y4:=Lib.hid (Y3.out.below hb)
   clear hX hb H3 C3 L3 Y3
   refine hK.out _ _ (hcell _ H4.out C4.out) (fun hHeld2=> ?_)
   clear hK K
   (try simp only[Act.put,List.setIfInBounds_toArray,List.set_cons_zero,List.set_cons_succ])
   refine Reg.tk 17 rfl ?_
   refine Reg.tk 18 rfl ?_
   refine Reg.tk 19 rfl ?_
   refine Reg.tk 20 rfl ?_
   refine Reg.step 22 rfl (by kernel_rfl) (by rfl) (fun K hK=> ?_)
   obtain⟨f0,f1,f2⟩:=Y4.out.frozen
   obtain⟨n0,n1,n2⟩:=Y4.out.cells
   go_simp
   have L5:=Lib.hid (below3 (g:=g2) L4.out G3.out (.int .i64 zz.st) (.int .i64 zz.fc) (.slice X zz.data.length q))
   have Z5:=Lib.hid (Box.store Y4.out zz X q)
   have R5:=Lib.hid (Box.row3 Y4.out R4.out zz.st zz.fc X zz.data.length q)
   have H5:=Lib.hid (H1.out.below L5.out)
   have C5:=Lib.hid (CBox.below C1.out L5.out)
   clear n0 n1 n2 f0 f1 f2
   refine hK.out _ _ (hcell _ H5.out C5.out) (fun hHeld2=> ?_)
   clear hK K
   (try simp only[Act.put,List.setIfInBounds_toArray,List.set_cons_zero,List.set_cons_succ])
   refine Reg.tk 23 rfl ?_
   refine Reg.tk 24 rfl ?_
   refine wpAnyH_done (by kernel_rfl) ?_ _
   go_wp2_with fail
   go_meet
   exact⟨rfl,L5.out⟩
 case rest=>
  obtain⟨rfl,hP⟩:=hcut
  have H2:=Lib.hid (H1.out.below hP.out)
  have N2:=Lib.hid (EBox.below N1.out hP.out)
  have L2:=Lib.hid (L1.out.trans (hP.out.mono L1.out.size))
  have B2:=Lib.hid (But.of_below (q:=k.q) L2.out)
  have C2:=Lib.hid (CBox.below C1.out hP.out)
  clear hP C1 H1 L1 N1 HC HZL1 zz
  generalize wc=w2 at*
  rcases e1:(er==0)
  ·rw[e1,cond_false] at HPL
   have e2:(er !=0)=true:=by rw[bne,e1];rfl
   obtain⟨n0,n1,n2⟩:=N2.out.cells
   obtain⟨f0,f1,f2⟩:=N2.out.frozen
   go_wp2_with fail
   refine bodyPost_ret_by (results_cell_row rfl _ _ (w.heap.size+1) _ _ _ _ rfl (EBox.store N2.out er 0 none 0 0) Tryz.underlying51 rfl (by kernel_rfl)) rfl ?_
   rw[←HPL.out]
   exact acted_end H0.out H2.out N2.out (by omega) B2.out ⟨er,0,[]⟩ none 0 (Away.nil _ _) rfl rfl
  ·rw[e1,cond_true] at HPL
   obtain rfl:er=0:=beq_iff_eq.1 e1
   obtain⟨y0,y1,y2,y3,y4,y5⟩:=CBox.cells C2.out
   go_wp2_with fail
   refine(HTC w2 H2.out).out.mono ?_
   rintro e w3 ⟨rfl,hb⟩
   have H3:=Lib.hid (H2.out.below hb)
   have N3:=Lib.hid (EBox.below N2.out hb)
   have L3:=Lib.hid (L2.out.trans (hb.mono L2.out.size))
   have B3:=Lib.hid (But.of_below (q:=k.q) L3.out)
   have C3:=Lib.hid (CBox.below C2.out hb)
   clear hb H2 N2 L2 B2 C2 y0 y1 y2 y3 y4 y5 HTC
   rcases e3:(ce==0)
   ·rw[e3,cond_false] at HPL
    have e4:(ce !=0)=true:=by rw[bne,e3];rfl
    obtain⟨n0,n1,n2⟩:=N3.out.cells
    obtain⟨f0,f1,f2⟩:=N3.out.frozen
    go_wp2_with fail
    refine bodyPost_ret_by (results_cell_row rfl _ _ (w.heap.size+1) _ _ _ _ rfl (EBox.store N3.out ce 0 none 0 0) Tryz.underlying51 rfl (by kernel_rfl)) rfl ?_
    rw[←HPL.out]
    exact acted_end H0.out H3.out N3.out (by omega) B3.out ⟨ce,0,[]⟩ none 0 (Away.nil _ _) rfl rfl
   ·rw[e3,cond_true] at HPL
    have e4:(ce !=0)=false:=by rw[bne,e3];rfl
    go_upto_region 7 with fail
    go_cut [10,11] (fun s t wx=>∃gz X q,s= .pointer (some ⟨gz,0,none⟩)∧t= .int .i64 te∧Hid (Box wx gz zt X q∧Row cb wx X zt.data.length q zt.data∧Below w3.heap.size w3 wx∧Lo k.g X))
    case first=>
     have HZL:=HZL2
     generalize hzz:zt=zz at*
     clear hzz zt
     have HQ:=H3
     have CQ:=C3
     have LQ:=L3
     clear H3 C3 L3
     generalize w3=wq at*
     have H2:Hid (Desk k xs wq.drew):=HQ.out.below (Below.refl _ wq).drew
     have C2:Hid (CBox wq.drew w.heap.size x.c.d i x.c.epoch x.c.off x.c.n x.B x.c.b.length x.k):=CQ
     have L2:Hid (Below wq.heap.size wq wq.drew):=(Below.refl _ wq).drew
     refine wp_region_held_drew (S:=fun W=>(W.cell? ⟨k.g,0,none⟩=some (.int .i64 k.cap)∧W.cell? ⟨k.g,3,none⟩=some (.slice (some ⟨k.q,k.o,none⟩) k.n k.c))∧(W.cell? ⟨w.heap.size,1,none⟩=some (.int .i64 (i:Int))∧W.cell? ⟨w.heap.size,2,none⟩=some (.int .i64 x.c.epoch)∧W.cell? ⟨w.heap.size,3,none⟩=some (.int .i64 x.c.off)∧W.cell? ⟨w.heap.size,4,none⟩=some (.int .i64 x.c.n)∧W.cell? ⟨w.heap.size,5,none⟩=some (.slice x.B x.c.b.length x.k))∧(W.cell? ⟨k.q,k.o+i*3,none⟩=some (.int .i64 v.z.st)∧W.cell? ⟨k.q,k.o+i*3+1,none⟩=some (.int .i64 v.z.fc)∧W.cell? ⟨k.q,k.o+i*3+2,none⟩=some (.slice v.D v.z.data.length v.c)))
      (by kernel_rfl) (hcell _ H2.out C2.out) (fun hHeld=> ?_)
     generalize wq.drew=w2 at*
     refine Reg.tk 0 rfl ?_
     refine Reg.tk 1 rfl ?_
     refine Reg.tk 2 rfl ?_
     refine Reg.tk 3 rfl ?_
     refine Reg.tk 4 rfl ?_
     refine Reg.tk 5 rfl ?_
     refine Reg.tk 6 rfl ?_
     refine Reg.tk 7 rfl ?_
     refine Reg.tk 8 rfl ?_
     refine Reg.tk 9 rfl ?_
     refine Reg.tk 10 rfl ?_
     refine Reg.tk 11 rfl ?_
     refine Reg.tk 12 rfl ?_
     refine Reg.tk 13 rfl ?_
     refine Reg.tk 14 rfl ?_
     refine Reg.tk 15 rfl ?_
     refine Reg.tk 16 rfl ?_
     refine Reg.tk 17 rfl ?_
     refine Reg.step2 18 22 rfl rfl (by kernel_rfl) (by rfl) (by rfl) (fun K hK=> ?_) (fun K hK=> ?_)
     ·go_simp
      refine(HT w2 (H2.out.data_at HV.out) ((RB.out.below LQ.out).below L2.out)).out.mono ?_
      rintro e w3 ⟨X,q,rfl,hX,hb⟩
      have LO:=Lib.hid (lo_own hX (Nat.le_of_lt H2.out.g_lt))
      unfold zv
      have RX:=Lib.hid hX
      have H3:=Lib.hid (H2.out.below hb)
      have C3:=Lib.hid (CBox.below C2.out hb)
      have L3:=Lib.hid (L2.out.trans (hb.mono L2.out.size))
      clear hX hb H2 C2 L2
      refine hK.out _ _ (hcell _ H3.out C3.out) (fun hHeld2=> ?_)
      clear hK K
      (try simp only[Act.put,List.setIfInBounds_toArray,List.set_cons_zero,List.set_cons_succ])
      refine Reg.tk 19 rfl ?_
      refine Reg.tk 20 rfl ?_
      refine Reg.tk 21 rfl ?_
      refine Reg.step 22 rfl (by kernel_rfl) (by rfl) (fun K hK=> ?_)
      go_simp
      have b4:Below w3.heap.size w3 (w3.alloc (.cells #[.int .i64 0,.int .i64 0,.slice none 0 0] 46)):=(Below.refl _ w3).alloc (Nat.le_refl _) _
      refine hK.out _ _ (hcell _ (H3.out.below b4) (CBox.below C3.out b4)) (fun hHeld2=> ?_)
      clear hK K b4
      (try simp only[Act.put,List.setIfInBounds_toArray,List.set_cons_zero,List.set_cons_succ])
      refine Reg.step 23 rfl (by kernel_rfl) (by rfl) (fun K hK=> ?_)
      go_simp
      have b4:Below w3.heap.size w3 (w3.alloc (.cells #[.int .i64 zz.st,.int .i64 zz.fc,.slice X zz.data.length q] 46)):=(Below.refl _ w3).alloc (Nat.le_refl _) _
      have Z4:Hid (Box (w3.alloc (.cells #[.int .i64 zz.st,.int .i64 zz.fc,.slice X zz.data.length q] 46)) w3.heap.size zz X q):=Box.new w3 zz X q
      have R4:=Lib.hid (Row.below (gave_row RX.out HZL.out).1 b4)
      have L4:=Lib.hid (L3.out.trans (b4.mono L3.out.size))
      refine hK.out _ _ (hcell _ (H3.out.below b4) (CBox.below C3.out b4)) (fun hHeld2=> ?_)
      clear hK K b4
      (try simp only[Act.put,List.setIfInBounds_toArray,List.set_cons_zero,List.set_cons_succ])
      refine Reg.tk 24 rfl ?_
      refine wpAnyH_done (by kernel_rfl) ?_ _
      go_wp2_with fail
      go_meet
      exact⟨_,X,q,rfl,rfl,Z4.out,R4.out,L4.out,LO.out⟩
     ·go_simp
      have b3:Below w2.heap.size w2 (w2.alloc (.cells #[.int .i64 0,.int .i64 0,.slice none 0 0] 46)):=(Below.refl _ w2).alloc (Nat.le_refl _) _
      have Y3:Hid (Box (w2.alloc (.cells #[.int .i64 0,.int .i64 0,.slice none 0 0] 46)) w2.heap.size nilZ none 0):=Box.new w2 nilZ none 0
      have G3:Hid (wq.heap.size≤w2.heap.size):=L2.out.size
      have H3:=Lib.hid (H2.out.below b3)
      have C3:=Lib.hid (CBox.below C2.out b3)
      have L3:=Lib.hid (L2.out.trans (b3.mono L2.out.size))
      refine hK.out _ _ (hcell _ H3.out C3.out) (fun hHeld2=> ?_)
      have hg2:Hid (k.g<w2.heap.size∧k.q<w2.heap.size∧w.heap.size<w2.heap.size):=⟨H2.out.g_lt,H2.out.q_lt,Cells.lt C2.out⟩
      clear hK K b3 H2 C2 L2
      (try simp only[Act.put,List.setIfInBounds_toArray,List.set_cons_zero,List.set_cons_succ])
      generalize w2.alloc (.cells #[.int .i64 0,.int .i64 0,.slice none 0 0] 46)=w3 at*
      generalize w2.heap.size=g2 at*
      refine Reg.step 18 rfl (by kernel_rfl) (by rfl) (fun K hK=> ?_)
      go_simp
      refine(HT w3 (H3.out.data_at HV.out) ((RB.out.below LQ.out).below L3.out)).out.mono ?_
      rintro e w4 ⟨X,q,rfl,hX,hb⟩
      have LO:=Lib.hid (lo_own hX (Nat.le_of_lt H3.out.g_lt))
      unfold zv
      have R4:=Lib.hid (gave_row hX HZL.out).1
      have H4:=Lib.hid (H3.out.below hb)
      have C4:=Lib.hid (CBox.below C3.out hb)
      have L4:=Lib.hid (L3.out.trans (hb.mono L3.out.size))
      have Y4:=Lib.hid (Y3.out.below hb)
      clear hX hb H3 C3 L3 Y3
      refine hK.out _ _ (hcell _ H4.out C4.out) (fun hHeld2=> ?_)
      clear hK K
      (try simp only[Act.put,List.setIfInBounds_toArray,List.set_cons_zero,List.set_cons_succ])
      refine Reg.tk 19 rfl ?_
      refine Reg.tk 20 rfl ?_
      refine Reg.tk 21 rfl ?_
      refine Reg.step 23 rfl (by kernel_rfl) (by rfl) (fun K hK=> ?_)
      obtain⟨f0,f1,f2⟩:=Y4.out.frozen
      obtain⟨n0,n1,n2⟩:=Y4.out.cells
      go_simp
      have L5:=Lib.hid (below3 (g:=g2) L4.out G3.out (.int .i64 zz.st) (.int .i64 zz.fc) (.slice X zz.data.length q))
      have Z5:=Lib.hid (Box.store Y4.out zz X q)
      have R5:=Lib.hid (Box.row3 Y4.out R4.out zz.st zz.fc X zz.data.length q)
      have H5:=Lib.hid (HQ.out.below L5.out)
      have C5:=Lib.hid (CBox.below CQ.out L5.out)
      clear n0 n1 n2 f0 f1 f2
      refine hK.out _ _ (hcell _ H5.out C5.out) (fun hHeld2=> ?_)
      clear hK K
      (try simp only[Act.put,List.setIfInBounds_toArray,List.set_cons_zero,List.set_cons_succ])
      refine Reg.tk 24 rfl ?_
      refine wpAnyH_done (by kernel_rfl) ?_ _
      go_wp2_with fail
      go_meet
      exact⟨_,X,q,rfl,rfl,Z5.out,R5.out,L5.out,LO.out⟩
    case rest=>
     obtain⟨gz,X,q,rfl,rfl,hP⟩:=hcut
     have Z4:=Lib.hid hP.out.1
     have R4:=Lib.hid hP.out.2.1
     have LO2:=Lib.hid hP.out.2.2.2
     have H4:=Lib.hid (H3.out.below hP.out.2.2.1)
     have N4:=Lib.hid (EBox.below N3.out hP.out.2.2.1)
     have L4:=Lib.hid (L3.out.trans (hP.out.2.2.1.mono L3.out.size))
     have B4:=Lib.hid (But.of_below (q:=k.q) L4.out)
     have C4:=Lib.hid (CBox.below C3.out hP.out.2.2.1)
     clear hP C3 H3 L3 N3 B3 hcell HT
     generalize wc=w4 at*
     obtain⟨c0,c1,c2⟩:=Z4.out.cells
     obtain⟨y0,y1,y2,y3,y4,y5⟩:=CBox.cells C4.out
     rcases e5:(te==0)
     ·rw[e5,cond_false] at HPL
      have e6:(te !=0)=true:=by rw[bne,e5];rfl
      obtain⟨n0,n1,n2⟩:=N4.out.cells
      obtain⟨f0,f1,f2⟩:=N4.out.frozen
      go_wp2_with fail
      refine bodyPost_ret_by (results_cell_row rfl _ _ (w.heap.size+1) _ _ _ _ rfl (EBox.store N4.out te 0 none 0 0) Tryz.underlying51 rfl (by kernel_rfl)) rfl ?_
      rw[←HPL.out]
      exact acted_end H0.out H4.out N4.out (by omega) B4.out ⟨te,0,[]⟩ none 0 (Away.nil _ _) rfl rfl
     ·rw[e5,cond_true] at HPL
      obtain rfl:te=0:=beq_iff_eq.1 e5
      rcases e7:(x.c.n==0)
      ·rw[e7,cond_false] at HPL
       go_wp2_with fail
       refine(HP w4 zt X q H4.out R4.out LO2.out).out.mono ?_
       rintro e w5 ⟨xs',rfl,hD,hz,hB⟩
       have N5:=Lib.hid (EBox.but N4.out hB (by have:=H0.out.q_lt;omega))
       have D5:=Lib.hid hD
       have B5:=Lib.hid (But.trans B4.out hB)
       have M5:=Lib.hid hz
       clear hB hD hz c0 c1 c2 y0 y1 y2 y3 y4 y5 HP
       obtain⟨n0,n1,n2⟩:=N5.out.cells
       obtain⟨f0,f1,f2⟩:=N5.out.frozen
       go_wp2_with fail
       refine bodyPost_ret_by (results_cell_row rfl _ _ (w.heap.size+1) _ _ _ _ rfl (EBox.store N5.out (putO k.op k.ac (xs.map Zv.z) i zt).2 0 none 0 0) Tryz.underlying51 rfl (by kernel_rfl)) rfl ?_
       rw[←HPL.out]
       exact acted_end H0.out D5.out N5.out (by omega) B5.out ⟨(putO k.op k.ac (xs.map Zv.z) i zt).2,0,[]⟩ none 0 (Away.nil _ _) M5.out rfl
      ·rw[e7,cond_true] at HPL
       obtain⟨n0,n1,n2⟩:=N4.out.cells
       obtain⟨f0,f1,f2⟩:=N4.out.frozen
       go_wp2_with fail
       refine bodyPost_ret_by (results_cell_row rfl _ _ (w.heap.size+1) _ _ _ _ rfl (EBox.store N4.out 0 0 none 0 0) Tryz.underlying51 rfl (by kernel_rfl)) rfl ?_
       rw[←HPL.out]
       exact acted_end H0.out H4.out N4.out (by omega) B4.out ⟨0,0,[]⟩ none 0 (Away.nil _ _) rfl rfl
end Zns
end
section
open Go.RowKit Mem Zon
namespace Zns
end Zns
end
section
open Go.RowKit Go.MapKept Mem Zon
namespace Zns
def ent (g:Nat) (k:Int) (f born:Nat):MapEntry:=⟨.int .i64 k,.func (.func f) #[.pointer (some ⟨g,0,none⟩)] #[],born⟩
def actEs (g:Nat):Array MapEntry:=
 #[ent g 1 110 0,ent g 8 111 1,ent g 2 112 2,ent g 3 113 3,
  ent g 4 114 4,ent g 5 115 5,ent g 6 116 6,ent g 7 117 7]
def Acts (w:World) (r g:Nat):Prop:=w.heap[r]? =some (.map (actEs g) 8)
theorem Acts.below {w w':World} {r g:Nat} (h:Acts w r g) (hb:Below w.heap.size w w'):Acts w' r g:=(hb.block r (Array.getElem?_eq_some_iff.1 h).1).trans h
theorem Acts.but {w w':World} {r g q:Nat} (h:Acts w r g) (hb:But q w w') (hn:r≠q):Acts w' r g:=(hb.block (Array.getElem?_eq_some_iff.1 h).1 hn).trans h
theorem wpList_insert_new {P:Program} {w:World} {ops:Array Oper} {rest:List Oper} {o:Oper} {a:Act} {Q:Exit→Act→World→Prop}
  (hg:o.guard=none) (m x v:Operand) (t:TypeId) (hop:o.op=Op.insert t m x v)
  {k e:TypeId} (ht:P.underlying t=some (.map k e)) (hk:P.underlying k=some (.int .i64)) {b B:Nat} (hB:B≤b) {es:Array MapEntry} {clock:Nat}
  (hm:a.eval m= .map (some b)) (hb:w.heap[b]? =some (.map es clock)) {n:Int} (hx:a.eval x= .int .i64 n) (hnew:Instr.findNow (.int .i64) (.int .i64 n) es.toList 0=some none)
  (hK:∀w',w'.heap[b]? =some (.map (es.push ⟨.int .i64 n,a.eval v,clock⟩) (clock+1))→Below B w w'→wpList P ops Q rest (a.put o.dst undef) w'):
  wpList P ops Q (o::rest) a w:=by
 refine wpList_plain hg fun K' hK'=> ?_
 have hkey:IsKey (.int .i64) (.int .i64 n):=rfl
 have hr:(Instr.mapUpdate t (.map (some b)) (.int .i64 n) (a.eval v)).run P w= .ok () {w with heap:=w.heap.setIfInBounds b (.map (es.push ⟨.int .i64 n,a.eval v,clock⟩) (clock+1))}:=by
  simp[Instr.mapUpdate,run_underlying ht,MapKept.run_getObj_map (P:=P) hb,MapKept.run_checkKey (P:=P) (w:=w) hk hkey,MapKept.run_findKey (P:=P) (w:=w) hk hnew,MapKept.run_setObj_map (P:=P) _ hb,Result.andThen]
 unfold Oper.wp
 simp[execOp,hop,hm,hx,hr,Result.andThen]
 have h2:=heap_set hb (o':= .map (es.push ⟨.int .i64 n,a.eval v,clock⟩) (clock+1))
 exact hK' _ _ (hK _ h2.1 ⟨rfl,rfl,rfl,by simp,fun i hi=>h2.2 i (by omega)⟩)
theorem acts_any (g:Nat) (w:World):
  Calls Tryz.prog 79 #[.pointer (some ⟨g,0,none⟩)] w fun e w'=>e= .returned (.map (some w.heap.size))∧Acts w' w.heap.size g∧Below w.heap.size w w':=by
 have hmm:= @run_makeMap Tryz.prog
 have hmf:∀(fn:Fn) (first cap:Array Value) (w:World),(Instr.makeFunc fn first cap).run Tryz.prog w= .ok (.func fn first cap) w:=fun _ _ _ _=>rfl
 have h0:(w.alloc (.map #[] 0)).heap[w.heap.size]? =some (.map #[] 0):=heap_alloc_new w _
 have hb0:Below w.heap.size w (w.alloc (.map #[] 0)):=(Below.refl _ w).alloc (Nat.le_refl _) _
 go_enter Tryz.func79,Tryz.ntmps79
 go_wp2_with (refine wpList_insert_new rfl _ _ _ 147 rfl Tryz.underlying147 Tryz.underlying3 (Nat.le_refl w.heap.size) rfl (by assumption) rfl (by rfl) ?_
              intro w' h1 h2
              have hb0:=hb0.trans h2
              clear h2)
 go_ret
 refine⟨rfl,?_,by assumption⟩
 show _=_
 assumption
def actF (d:Int):Nat:=
 bif d==1 then 110 else bif d==8 then 111 else bif d==2 then 112 else bif d==3 then 113
 else bif d==4 then 114 else bif d==5 then 115 else bif d==6 then 116 else 117
theorem known_of {d:Int} (h:knownB d=true):d=1∨d=8∨d=2∨d=3∨d=4∨d=5∨d=6∨d=7:=by
 unfold knownB at h
 simp only[Bool.and_eq_true,decide_eq_true_eq] at h
 omega
theorem run_lookup_new {w:World} {r g:Nat} {d:Int} (h:Acts w r g) (hk:knownB d=false):(Instr.lookup 147 (.map (some r)) (.int .i64 d) true).run Tryz.prog w= .ok (.tuple #[.nilFunc,.bool false]) w:=by
 have hkey:IsKey (.int .i64) (.int .i64 d):=rfl
 have hf:Instr.findNow (.int .i64) (.int .i64 d) (actEs g).toList 0=some none:=by
  unfold knownB at hk
  simp only[Bool.and_eq_false_iff,decide_eq_false_iff_not] at hk
  have h1:(d==1)=false:=beq_eq_false_iff_ne.2 (by omega)
  have h2:(d==2)=false:=beq_eq_false_iff_ne.2 (by omega)
  have h3:(d==3)=false:=beq_eq_false_iff_ne.2 (by omega)
  have h4:(d==4)=false:=beq_eq_false_iff_ne.2 (by omega)
  have h5:(d==5)=false:=beq_eq_false_iff_ne.2 (by omega)
  have h6:(d==6)=false:=beq_eq_false_iff_ne.2 (by omega)
  have h7:(d==7)=false:=beq_eq_false_iff_ne.2 (by omega)
  have h8:(d==8)=false:=beq_eq_false_iff_ne.2 (by omega)
  simp[actEs,ent,Instr.findNow,Instr.sameNow,h1,h2,h3,h4,h5,h6,h7,h8]
 have hz:(zeroValue 202).run Tryz.prog w= .ok .nilFunc w:=by kernel_rfl
 simp[Instr.lookup,run_underlying Tryz.underlying147,MapKept.run_getObj_map (P:=Tryz.prog) h,MapKept.run_checkKey (P:=Tryz.prog) (w:=w) Tryz.underlying3 hkey,MapKept.run_findKey (P:=Tryz.prog) (w:=w) Tryz.underlying3 hf,hz,Result.andThen]
theorem run_lookup_act {w:World} {r g:Nat} {d:Int} (h:Acts w r g) (hk:knownB d=true):(Instr.lookup 147 (.map (some r)) (.int .i64 d) true).run Tryz.prog w= .ok (.tuple #[.func (.func (actF d)) #[.pointer (some ⟨g,0,none⟩)] #[],.bool true]) w:=by
 have hkey:IsKey (.int .i64) (.int .i64 d):=rfl
 have hf:∃j,Instr.findNow (.int .i64) (.int .i64 d) (actEs g).toList 0=some (some (j,.func (.func (actF d)) #[.pointer (some ⟨g,0,none⟩)] #[])):=by
  rcases known_of hk with rfl|rfl|rfl|rfl|rfl|rfl|rfl|rfl
  all_goals exact⟨_,rfl⟩
 obtain⟨j,hf⟩:=hf
 simp[Instr.lookup,run_underlying Tryz.underlying147,MapKept.run_getObj_map (P:=Tryz.prog) h,MapKept.run_checkKey (P:=Tryz.prog) (w:=w) Tryz.underlying3 hkey,MapKept.run_findKey (P:=Tryz.prog) (w:=w) Tryz.underlying3 hf,Result.andThen]
end Zns
end
end Go.Proofs.YtmkagjnkpjpjcaaGreat
