/-
  SEVERAL TEXTS IN ONE FILE: PRun, PRunW, PRunV, PRepVals.
-/
import Derived.Test.YtmkagjnkpjpjcaaGreatJ19
import Derived.Test.YtmkagjnkpjpjcaaGreatJ18
import Derived.Test.YtmkagjnkpjpjcaaGreatJ14
import Derived.Test.YtmkagjnkpjpjcaaGreatJ15
import Derived.BigQuiet
namespace Go.Proofs.YtmkagjnkpjpjcaaGreat
set_option maxRecDepth 100000
set_option linter.unusedSimpArgs false
set_option linter.unusedVariables false
set_option maxHeartbeats 25600000
section
open Go.RowKit Mem Box Zns
namespace Rp
open Seg (Hdr Rc Rv cellsOf RowR hdV fits nums hnums nn frame headX recX frames check)
open Pk (Pp Px pxv PackAt OwnP zoneOf placeR flen places addP moreP behindP fitsP errB OkP beginP Apd Fre Did2 eight_cells)
open Zon (Zn Zv B8 nilZ cellsZ)
open GM (FMap getB setB Ky)
structure Ran (w w':World) (n k:Nat) (X:Dx) (L:Lg) (mb:Nat) (ws:List (Int × List B8)):Prop where
 dev:DevAt w' X
 px:X.p=dvOf n L
 ok:okD (dvOf n L)=true
 lg:LgOk n k L
 mw:MWt w' mb ws
 wt:∀j,getB ws j=wantL L j
 bel:Below w.heap.size w w'
 new:w.heap.size≤mb
def zeroPx:Px:=⟨Pk.zeroP,none,0,none,0,[]⟩
theorem look_pack {w:World} {r z:Nat} {rs:List Rc} {ks:List (Int × Px)} (h:MPk w r ks) (hk:PkOk ks z rs):∃(y:Px) (b:Bool),(Instr.lookup 76 (.map (some r)) (.int .i64 (z:Int)) true).run Tryz.prog w= .ok (.tuple #[.agg #[.int .i64 y.p.h.host,.int .i64 y.p.h.epoch,.int .i64 y.p.h.seq,.int .i64 y.p.zone,.int .i64 y.p.cap,.int .i64 y.p.at_,.slice y.B y.p.buf.length y.bc,.slice y.L y.p.l.length y.lc],.bool b]) w∧Hid ((b=false∧rs= [])∨(b=true∧y.p=packZ z rs∧∀W,PackAt W y)):=by
 rcases hk with⟨h1,h2⟩|⟨h1,y,h2,h3,h4⟩
 ·exact⟨zeroPx,false,getPk_none h h2,.inl ⟨rfl,h1⟩⟩
 ·exact⟨y,true,getPk_some h h2,.inr ⟨rfl,h3,h4⟩⟩
theorem upB {b:Nat} {w w1 w2:World} (h:Below b w w1) (hb:b≤w.heap.size) (h2:Below w1.heap.size w1 w2):Below b w w2:=h.trans (h2.mono (Nat.le_trans hb h.size))
theorem run_any {A:Option Addr} {m c:Nat} {ls:List Wr} {w:World} (h:RowS cellsW 5 w A m c ls) (hm:m≤40) {n:Nat} (hn1:1≤n) (hn4:n≤4):
  Calls Tryz.prog 9 #[.slice A m c,.int .i64 (n:Int)] w fun e w'=>∃(X:Dx) (L:Lg) (mb:Nat) (ws:List (Int × List B8)),e= .returned (.tuple #[.agg #[.int .i64 X.cap,.int .i64 X.op,.int .i64 X.ac,.slice X.A X.n X.c],.map (some mb),.bool true])∧Hid (Ran w w' n m X L mb ws):=by
 have HR:=Lib.hid h
 have hmm:= @run_makeMap Tryz.prog
 have HN:=fun w=>Lib.hid (newN hn1 hn4 w)
 have L1:=Lib.hid ((Below.refl w.heap.size w).alloc (Nat.le_refl _) (.cells #[.int .i64 0,.int .i64 0,.int .i64 0,.slice none 0 0] 26))
 have C1:Hid (Cells (w.alloc (.cells #[.int .i64 0,.int .i64 0,.int .i64 0,.slice none 0 0] 26)) w.heap.size 26 #[.int .i64 0,.int .i64 0,.int .i64 0,.slice none 0 0]):=Cells.new _ _ _
 clear h
 go_enter Tryz.func9,Tryz.ntmps9
 go_upto_region 1 with fail
 have G1:Hid (w.heap.size<(w.alloc (.cells #[.int .i64 0,.int .i64 0,.int .i64 0,.slice none 0 0] 26)).heap.size):=by show _<_;simp
 generalize w.alloc (.cells #[.int .i64 0,.int .i64 0,.int .i64 0,.slice none 0 0] 26)=w1 at*
 go_upto_region 2 with(go_at_call 22;refine(HN w1).out.mono ?_;rintro e w2 ⟨X,rfl,hX,hb⟩;have L2:=Lib.hid (L1.out.trans (hb.mono L1.out.size));have C2:=Lib.hid (Cells.below C1.out hb);have G2:Hid (w.heap.size<w2.heap.size):=Nat.lt_of_lt_of_le G1.out hb.size;clear hb)
 have A3:Below w2.heap.size w2 (w2.alloc (.cells #[.int .i64 X.cap,.int .i64 X.op,.int .i64 X.ac,.slice X.A X.n X.c] 26)):=(Below.refl _ w2).alloc (Nat.le_refl _) _
 have A4:Below w2.heap.size w2 (((w2.alloc (.cells #[.int .i64 X.cap,.int .i64 X.op,.int .i64 X.ac,.slice X.A X.n X.c] 26)).alloc (.map #[] 0)).alloc (.map #[] 0)):=(A3.alloc A3.size _).alloc (by have:=A3.size;simp at this ⊢;omega) _
 have S4:Hid (St w (((w2.alloc (.cells #[.int .i64 X.cap,.int .i64 X.op,.int .i64 X.ac,.slice X.A X.n X.c] 26)).alloc (.map #[] 0)).alloc (.map #[] 0)) n 0 w.heap.size w2.heap.size (w2.heap.size+1) (w2.heap.size+2) X [] [] []):=by
  have g2:=G2.out
  have c7:Cells (w2.alloc (.cells #[.int .i64 X.cap,.int .i64 X.op,.int .i64 X.ac,.slice X.A X.n X.c] 26)) w2.heap.size 26 #[.int .i64 X.cap,.int .i64 X.op,.int .i64 X.ac,.slice X.A X.n X.c]:=Cells.new _ _ _
  have hs:(w2.alloc (.cells #[.int .i64 X.cap,.int .i64 X.op,.int .i64 X.ac,.slice X.A X.n X.c] 26)).heap.size=w2.heap.size+1:=by simp
  have hap:∀g,w2.heap.size≤g→Apd X (some g):=fun g hg=>apd_late hX.out.1 hg
  have hmp:=FMap.made (Value.int .i64) (fun _:Int=>True) pxv (w2.alloc (.cells #[.int .i64 X.cap,.int .i64 X.op,.int .i64 X.ac,.slice X.A X.n X.c] 26))
  have hmw:=FMap.made (Value.int .i64) (fun _:Int=>True) (fun l:List B8=>Value.string (str l)) ((w2.alloc (.cells #[.int .i64 X.cap,.int .i64 X.op,.int .i64 X.ac,.slice X.A X.n X.c] 26)).alloc (.map #[] 0))
  rw[World.size_alloc,hs] at hmw
  rw[hs] at hmp
  refine⟨L2.out.trans (A4.mono L2.out.size),C2.out.below A4,(c7.alloc _).alloc _,hX.out.1.below A4,hX.out.2.1,dv_ok0 hn1 hn4,LgOk.nil,fun g hg=> ?_,hmp.below ((Below.refl _ _).alloc (Nat.le_refl _) _),fun z hz=> .inl ⟨rfl,rfl⟩,hmw,fun j=>rfl,Nat.le_refl _,g2,by omega,by omega,by simp⟩
  simp only[List.mem_cons,List.not_mem_nil,or_false] at hg
  rcases hg with rfl|rfl|rfl|rfl
  ·exact hX.out.2.2.box G1.out
  ·exact hap _ (Nat.le_refl _)
  ·exact hap _ (by omega)
  ·exact hap _ (by omega)
 go_upto_region 6 with fail
 have E3:(w2.alloc (.cells #[.int .i64 X.cap,.int .i64 X.op,.int .i64 X.ac,.slice X.A X.n X.c] 26)).heap.size=w2.heap.size+1:=by simp
 try simp only[World.size_alloc]
 generalize((w2.alloc (.cells #[.int .i64 X.cap,.int .i64 X.op,.int .i64 X.ac,.slice X.A X.n X.c] 26)).alloc (.map #[] 0)).alloc (.map #[] 0)=w4 at*
 obtain⟨pm,hpm⟩:∃r,r=w2.heap.size+1:=⟨_,rfl⟩
 obtain⟨wm,hwm⟩:∃r,r=w2.heap.size+2:=⟨_,rfl⟩
 have S5:=S4.out
 rw[←hpm,←hwm] at S5
 have S4:=Lib.hid S5
 try rw[show w2.heap.size+1+1=w2.heap.size+2 from rfl]
 try rw[←hpm]
 try rw[←hwm]
 clear A3 A4 E3 S5 hpm hwm HN L1 C1 G1 L2 C2 G2 hX hmm
 generalize w2.heap.size=g7 at*
 generalize w.heap.size=g4 at*
 have HMM:=Lib.hid hm
 go_wp2_with fail
 go_loopw [11,12,13,14,15,16,17,18,19,20,21,22,23,24,25,26,27,28,43] (fun _ _ _ _ _ _ _ _ _ _ _ _ _ _ _ _ _ _ i wr=>∃(k:Nat) (X:Dx) (L:Lg) (ks:List (Int × Px)) (ws:List (Int × List B8)),i= .int .i64 k∧k≤m∧Hid (St w wr n k g4 g7 pm wm X L ks ws)) (fun _ _ _ _ _ _ _ _ _ _ _ _ _ _ _ _ _ _ i _=>m-(intOf i).toNat)
 case atStart=>exact⟨0,X,[],[],[],rfl,by omega,S4⟩
 case round=>
  clear S4
  obtain⟨k,X,L,ks,ws,rfl,hk,hS⟩:=hrel
  by_cases hlt:k<m
  ·obtain⟨x,hx⟩:∃x,ls[k]? =some x:=⟨_,List.getElem?_eq_getElem (by have:=HR.out.len;omega)⟩
   obtain⟨b,o,hA,hb,hc⟩:=HR.out.elem hx
   subst hA
   obtain⟨bn,hbn⟩:∃z:Int,cb x.by_= .int .u8 z:=⟨_,rfl⟩
   have c0:wr.cell? ⟨b,o+k*5,none⟩=some (.int .i64 x.zone):=hc wr (hS.out.lw.block b hb) 0 _ rfl
   have c1:wr.cell? ⟨b,o+k*5+1,none⟩=some (.int .i64 x.lba):=hc wr (hS.out.lw.block b hb) 1 _ rfl
   have c2:wr.cell? ⟨b,o+k*5+2,none⟩=some (.int .i64 x.n):=hc wr (hS.out.lw.block b hb) 2 _ rfl
   have c3:wr.cell? ⟨b,o+k*5+3,none⟩=some (.int .u8 bn):=(hc wr (hS.out.lw.block b hb) 3 _ rfl).trans (congrArg some hbn)
   have c4:wr.cell? ⟨b,o+k*5+4,none⟩=some (.bool x.trim):=hc wr (hS.out.lw.block b hb) 4 _ rfl
   have hk0:(0:Int)≤(k:Int):=by omega
   have hkm:(k:Int)<(m:Int):=by omega
   have HBN:=Lib.hid hbn
   obtain⟨xz,xl,xn,xb,xt⟩:=x
   dsimp only at c0 c1 c2 c3 c4 HBN
   obtain⟨r1,z,a1,a2,a3,a4,a5,a6⟩:=Cut.cut_at xz n (by omega)
   obtain⟨r2,lb,b1,b2,b3,b4,b5,b6⟩:∃(r:Int) (j:Nat),Int.tmod xl 50=r∧ -50<r∧r<50∧Int.tmod (r+50) 50=j∧(r+50)%50=j∧j<50:=Cut.cut_at xl 50 (by omega)
   obtain⟨r3,q5,d1,d2,d3,d4,d5,d6⟩:∃(r:Int) (j:Nat),Int.tmod xn 5=r∧ -5<r∧r<5∧Int.tmod (r+5) 5=j∧(r+5)%5=j∧j<5:=Cut.cut_at xn 5 (by omega)
   obtain⟨nr,hnr⟩:∃M:Nat,(1:Int)+(q5:Int)=(M:Int):=⟨1+q5,by omega⟩
   have hnr1:1≤nr:=by omega
   have hnr5:nr≤5:=by omega
   have hn0:¬n=0:=by omega
   clear hx hc hb hbn
   go_upto_region 9 with fail
   have A1:Below wr.heap.size wr (wr.alloc (.cells #[.int .i64 xz,.int .i64 xl,.int .i64 xn,.int .u8 bn,.bool xt] 44)):=(Below.refl _ wr).alloc (Nat.le_refl _) _
   have S1:=Lib.hid (hS.out.below A1)
   have B1:Hid (Cells (wr.alloc (.cells #[.int .i64 xz,.int .i64 xl,.int .i64 xn,.int .u8 bn,.bool xt] 44)) wr.heap.size 44 #[.int .i64 xz,.int .i64 xl,.int .i64 xn,.int .u8 bn,.bool xt]):=Cells.new _ _ _
   generalize wr.alloc (.cells #[.int .i64 xz,.int .i64 xl,.int .i64 xn,.int .u8 bn,.bool xt] 44)=w1 at*
   have FX:Hid (wm<wr.heap.size):=hS.out.low.2.2.2.2
   clear A1 hS c0 c1 c2 c3 c4
   generalize wr.heap.size=xg at*
   have x0:w1.cell? ⟨xg,0,none⟩=some (.int .i64 xz):=Cells.cell B1.out 0
   have x1:w1.cell? ⟨xg,1,none⟩=some (.int .i64 xl):=Cells.cell B1.out 1
   have x2:w1.cell? ⟨xg,2,none⟩=some (.int .i64 xn):=Cells.cell B1.out 2
   go_upto_region 12 with fail
   clear x0 x1 x2 a1 a2 a3 a4 a5 b1 b2 b3 b4 b5 d1 d2 d3 d4 d5 hnr d6
   have hz4:z<4:=by omega
   obtain⟨y0,hb,hlook,HY0⟩:=look_pack S1.out.mp (S1.out.pk z a6)
   have F0:Hid (w.heap.size≤w1.heap.size∧wm<w1.heap.size):=⟨S1.out.lw.size,S1.out.low.2.2.2.2⟩
   go_upto_region 13 with fail
   clear hlook
   have K2:Hid (Below w1.heap.size w1 (w1.alloc (.cells #[.int .i64 y0.p.h.host,.int .i64 y0.p.h.epoch,.int .i64 y0.p.h.seq,.int .i64 y0.p.zone,.int .i64 y0.p.cap,.int .i64 y0.p.at_,.slice y0.B y0.p.buf.length y0.bc,.slice y0.L y0.p.l.length y0.lc] 78))):=(Below.refl _ w1).alloc (Nat.le_refl _) _
   have Q2:Hid (Cells (w1.alloc (.cells #[.int .i64 y0.p.h.host,.int .i64 y0.p.h.epoch,.int .i64 y0.p.h.seq,.int .i64 y0.p.zone,.int .i64 y0.p.cap,.int .i64 y0.p.at_,.slice y0.B y0.p.buf.length y0.bc,.slice y0.L y0.p.l.length y0.lc] 78)) w1.heap.size 78 #[.int .i64 y0.p.h.host,.int .i64 y0.p.h.epoch,.int .i64 y0.p.h.seq,.int .i64 y0.p.zone,.int .i64 y0.p.cap,.int .i64 y0.p.at_,.slice y0.B y0.p.buf.length y0.bc,.slice y0.L y0.p.l.length y0.lc]):=Cells.new _ _ _
   generalize w1.alloc (.cells #[.int .i64 y0.p.h.host,.int .i64 y0.p.h.epoch,.int .i64 y0.p.h.seq,.int .i64 y0.p.zone,.int .i64 y0.p.cap,.int .i64 y0.p.at_,.slice y0.B y0.p.buf.length y0.bc,.slice y0.L y0.p.l.length y0.lc] 78)=w2 at*
   obtain⟨pg,hpg⟩:∃p,p=w1.heap.size:=⟨_,rfl⟩
   have HPG:=Lib.hid hpg
   have PGL:Hid (pg≤w1.heap.size):=Nat.le_of_eq hpg
   rw[←hpg] at Q2 K2
   rw[←hpg]
   clear hpg
   go_upto_if 74 with fail
   go_cut [5,6,18,19] from 75 to 85 (fun _ _ _ _ wx=>∃Y:Px,Hid (Below pg w1 wx)∧Hid (Cells wx pg 78 #[.int .i64 Y.p.h.host,.int .i64 Y.p.h.epoch,.int .i64 Y.p.h.seq,.int .i64 Y.p.zone,.int .i64 Y.p.cap,.int .i64 Y.p.at_,.slice Y.B Y.p.buf.length Y.bc,.slice Y.L Y.p.l.length Y.lc])∧Hid (Y.p=packZ z (rsOf L z)∧PackAt wx Y))
   case first=>
    rcases HY0.out with⟨hb0,hrs⟩|⟨hb0,hyp,hyA⟩<;>subst hb0
    ·have HB:=fun w=>Lib.hid (beginZ hz4 w)
     have HRS:=Lib.hid hrs
     clear hrs
     skip
     go_upto_region 15 with(go_at_call 24;refine(HB w2).out.mono ?_;rintro e w3 ⟨Y,rfl,hY,hb⟩;have K3:=Lib.hid (upB K2.out PGL.out hb);have Q3:=Lib.hid (Cells.below Q2.out hb);clear hb)
     have bb:Below w3.heap.size w3 (w3.alloc (.cells #[.int .i64 Y.p.h.host,.int .i64 Y.p.h.epoch,.int .i64 Y.p.h.seq,.int .i64 Y.p.zone,.int .i64 Y.p.cap,.int .i64 Y.p.at_,.slice Y.B Y.p.buf.length Y.bc,.slice Y.L Y.p.l.length Y.lc] 78)):=(Below.refl _ w3).alloc (Nat.le_refl _) _
     have K4:=Lib.hid (upB K3.out PGL.out bb)
     have Q4:=Lib.hid (Cells.below Q3.out bb)
     have O4:=Lib.hid (OwnP.below hY.out.2 bb)
     have R4:Hid (Cells (w3.alloc (.cells #[.int .i64 Y.p.h.host,.int .i64 Y.p.h.epoch,.int .i64 Y.p.h.seq,.int .i64 Y.p.zone,.int .i64 Y.p.cap,.int .i64 Y.p.at_,.slice Y.B Y.p.buf.length Y.bc,.slice Y.L Y.p.l.length Y.lc] 78)) w3.heap.size 78 #[.int .i64 Y.p.h.host,.int .i64 Y.p.h.epoch,.int .i64 Y.p.h.seq,.int .i64 Y.p.zone,.int .i64 Y.p.cap,.int .i64 Y.p.at_,.slice Y.B Y.p.buf.length Y.bc,.slice Y.L Y.p.l.length Y.lc]):=Cells.new _ _ _
     generalize w3.alloc (.cells #[.int .i64 Y.p.h.host,.int .i64 Y.p.h.epoch,.int .i64 Y.p.h.seq,.int .i64 Y.p.zone,.int .i64 Y.p.cap,.int .i64 Y.p.at_,.slice Y.B Y.p.buf.length Y.bc,.slice Y.L Y.p.l.length Y.lc] 78)=w4 at*
     generalize w3.heap.size=q4 at*
     clear K3 Q3 bb
     obtain⟨k0,k1,k2,k3,k4,k5,k6,k7⟩:=eight_cells R4.out
     obtain⟨m0,m1,m2,m3,m4,m5,m6,m7⟩:=eight_cells Q4.out
     have f0:=Cells.frozen Q4.out 0
     have f1:=Cells.frozen Q4.out 1
     have f2:=Cells.frozen Q4.out 2
     have f3:=Cells.frozen Q4.out 3
     have f4:=Cells.frozen Q4.out 4
     have f5:=Cells.frozen Q4.out 5
     have f6:=Cells.frozen Q4.out 6
     have f7:=Cells.frozen Q4.out 7
     go_wp2_with fail
     go_meet
     have bt:=Pk.mov8 w4 pg (.int .i64 Y.p.h.host) (.int .i64 Y.p.h.epoch) (.int .i64 Y.p.h.seq) (.int .i64 Y.p.zone) (.int .i64 Y.p.cap) (.int .i64 Y.p.at_) (.slice Y.B Y.p.buf.length Y.bc) (.slice Y.L Y.p.l.length Y.lc)
     have qs:=Pk.set8 Q4.out (.int .i64 Y.p.h.host) (.int .i64 Y.p.h.epoch) (.int .i64 Y.p.h.seq) (.int .i64 Y.p.zone) (.int .i64 Y.p.cap) (.int .i64 Y.p.at_) (.slice Y.B Y.p.buf.length Y.bc) (.slice Y.L Y.p.l.length Y.lc)
     unfold Pk.set8W at bt qs
     have cg:=Chg.mov Q4.out bt
     refine⟨Y,Lib.hid (K4.out.trans (bt.below (by have:=K4.out.size;have:=PGL.out;omega) (by intro x hx;rw[List.mem_singleton] at hx;omega))),Lib.hid qs,Lib.hid ⟨by rw[HRS.out];exact hY.out.1,(O4.out.chg cg (by decide) (by decide)).any (by rw[hY.out.1];exact pack_ok (rs:= []) hz4 (by simp[datZ]))⟩⟩
    ·have HYP:=Lib.hid hyp
     clear hyp
     go_wp2_with fail
     go_meet
     exact⟨y0,K2,Q2,Lib.hid ⟨HYP.out,hyA w2⟩⟩
   case rest=>
    obtain⟨Y,K5,Q5,Y5⟩:=hcut
    obtain⟨w5,hw5⟩:∃x,x=wc:=⟨_,rfl⟩
    subst hw5
    clear K2 Q2 HY0
    obtain⟨N16,hN16⟩:∃N:Nat,N=16*nr:=⟨_,rfl⟩
    have hN:(16:Int)*(nr:Int)=(N16:Int):=by omega
    have HN16:=Lib.hid hN16
    have hN80:N16≤80:=by omega
    have HF:=fun W=>Lib.hid (fill_any xb (n:=N16) (by omega) W)
    rw[HBN.out] at HF
    have B5:=Lib.hid (Cells.low B1.out (by have:=B1.out.lt;have:=HPG.out;omega) K5.out)
    have x3:w5.cell? ⟨xg,3,none⟩=some (.int .u8 bn):=Cells.cell B5.out 3
    clear hN16
    go_upto_region 19 with(go_at_call 14;refine(HF w5).out.mono ?_;rintro e w6 ⟨FA,rfl,hO,hb⟩;have K6:=Lib.hid (upB K5.out PGL.out hb);have Q6:=Lib.hid (Cells.below Q5.out hb);have B6:=Lib.hid (Cells.below B5.out hb);have Y6:Hid (Y.p=packZ z (rsOf L z)∧PackAt w6 Y):=⟨Y5.out.1,Y5.out.2.below hb⟩;have D6:=Lib.hid (Wire.gave_row hO (by rw[List.length_replicate];omega)).1;clear hO hb)
    have bb:Below w6.heap.size w6 (w6.alloc (.cells #[.int .i64 1,.int .i64 (lb:Int),.int .i64 (nr:Int),.int .i64 ((k:Int)+1),.int .i64 0,.int .i64 0,.slice FA N16 N16] 49)):=(Below.refl _ w6).alloc (Nat.le_refl _) _
    have K7:=Lib.hid (upB K6.out PGL.out bb)
    have Q7:=Lib.hid (Cells.below Q6.out bb)
    have B7:=Lib.hid (Cells.below B6.out bb)
    have Y7:Hid (Y.p=packZ z (rsOf L z)∧PackAt (w6.alloc (.cells #[.int .i64 1,.int .i64 (lb:Int),.int .i64 (nr:Int),.int .i64 ((k:Int)+1),.int .i64 0,.int .i64 0,.slice FA N16 N16] 49)) Y):=⟨Y6.out.1,Y6.out.2.below bb⟩
    have D7:=Lib.hid (Row.below D6.out bb)
    have R7:Hid (Cells (w6.alloc (.cells #[.int .i64 1,.int .i64 (lb:Int),.int .i64 (nr:Int),.int .i64 ((k:Int)+1),.int .i64 0,.int .i64 0,.slice FA N16 N16] 49)) w6.heap.size 49 #[.int .i64 1,.int .i64 (lb:Int),.int .i64 (nr:Int),.int .i64 ((k:Int)+1),.int .i64 0,.int .i64 0,.slice FA N16 N16]):=Cells.new _ _ _
    have GR:Hid (pg<w6.heap.size∧xg<w6.heap.size):=⟨Q6.out.lt,B6.out.lt⟩
    generalize w6.alloc (.cells #[.int .i64 1,.int .i64 (lb:Int),.int .i64 (nr:Int),.int .i64 ((k:Int)+1),.int .i64 0,.int .i64 0,.slice FA N16 N16] 49)=w7 at*
    obtain⟨rg,hrg⟩:∃p,p=w6.heap.size:=⟨_,rfl⟩
    have HRG:=Lib.hid hrg
    have BB:=Lib.hid bb
    rw[←hrg] at R7 GR
    rw[←hrg]
    clear bb K5 Q5 B5 Y5 x3 K6 Q6 B6 D6 HF hN hrg
    have x4:w7.cell? ⟨xg,4,none⟩=some (.bool xt):=Cells.cell B7.out 4
    go_upto_if 97 with fail
    go_cut [20] from 98 to 99 (fun s wx=>∃v:Rv,s= .pointer (some ⟨rg,0,none⟩)∧Hid (Below pg w1 wx)∧Hid (Cells wx pg 78 #[.int .i64 Y.p.h.host,.int .i64 Y.p.h.epoch,.int .i64 Y.p.h.seq,.int .i64 Y.p.zone,.int .i64 Y.p.cap,.int .i64 Y.p.at_,.slice Y.B Y.p.buf.length Y.bc,.slice Y.L Y.p.l.length Y.lc])∧Hid (Cells wx xg 44 #[.int .i64 xz,.int .i64 xl,.int .i64 xn,.int .u8 bn,.bool xt])∧Hid (Y.p=packZ z (rsOf L z)∧PackAt wx Y)∧Hid (Cells wx rg 49 #[.int .i64 v.r.kind,.int .i64 v.r.lba,.int .i64 v.r.n,.int .i64 v.r.ver,.int .i64 v.r.zone,.int .i64 v.r.off,.slice v.D v.r.data.length v.c])∧Hid (Row cb wx v.D v.r.data.length v.c v.r.data)∧Hid (WR ((k:Int)+1) v.r∧txR v.r=(bif xt then List.replicate 16 0#8 else List.replicate 16 xb)∧v.r.lba=(lb:Int)∧v.r.n=(nr:Int)))
    case first=>
     have HLB:=Lib.hid b6
     have HK:Hid (k<100000):=by show _<_;have:=HMM.out;omega
     have HNR:Hid (1≤nr∧nr≤5):=⟨hnr1,hnr5⟩
     rcases xt
     ·go_wp2_with fail
      go_meet
      obtain⟨h1,h2⟩:=wr_data (b:=xb) HK.out HLB.out HNR.out.1 HNR.out.2
      have hl:(List.replicate (16*nr) xb).length=N16:=by rw[List.length_replicate];exact HN16.out.symm
      refine⟨⟨⟨1,(lb:Int),(nr:Int),(k:Int)+1,0,0,List.replicate (16*nr) xb⟩,FA,N16⟩,rfl,K7,Q7,B7,Y7,?_,?_,Lib.hid ⟨h1,h2,rfl,rfl⟩⟩
      ·show Cells _ _ _ _
       dsimp only
       rw[hl];exact R7.out
      ·show Row _ _ _ _ _ _
       dsimp only
       rw[hl,←HN16.out]
       exact D7.out
     ·have f0:=Cells.frozen R7.out 0
      have f6:=Cells.frozen R7.out 6
      have e0:=Cells.cell R7.out 0
      have e6:=Cells.cell R7.out 6
      go_wp2_with fail
      go_meet
      obtain⟨h1,h2⟩:=wr_trim HK.out HLB.out HNR.out.1 HNR.out.2
      have s:=fun(w:World) (i:Nat) (v:Value)=>Mov.set1 w (S:= [rg]) (q:=rg) (by simp) i v
      have bt:Mov [rg] w7 ((w7.setCell ⟨rg,0,none⟩ (.int .i64 2)).setCell ⟨rg,6,none⟩ (.slice none 0 0)):=(s _ _ _).trans (s _ _ _) (fun _ h=> .inl h)
      have hpr:=GR.out
      have hrs:=HRG.out
      have hb67:Below w6.heap.size w6 ((w7.setCell ⟨rg,0,none⟩ (.int .i64 2)).setCell ⟨rg,6,none⟩ (.slice none 0 0)):=BB.out.trans (bt.below BB.out.size (by intro x hx;rw[List.mem_singleton] at hx;omega))
      refine⟨⟨⟨2,(lb:Int),(nr:Int),(k:Int)+1,0,0,[]⟩,none,0⟩,rfl,Lib.hid (K7.out.trans (bt.below (by have:=K7.out.size;have:=PGL.out;omega) (by intro x hx;rw[List.mem_singleton] at hx;omega))),Lib.hid (Q7.out.mov bt (by simp;omega)),Lib.hid (B7.out.mov bt (by simp;omega)),Lib.hid ⟨Y6.out.1,Y6.out.2.below hb67⟩,Lib.hid ?_,Lib.hid (Row.nil _ _),Lib.hid ⟨h1,h2,rfl,rfl⟩⟩
      simpa using(R7.out.set_ 0 (.int .i64 2)).set_ 6 (.slice none 0 0)
    case rest=>
     obtain⟨v,rfl,K8,Q8,B8,Y8,R8,D8,W8⟩:=hcut
     obtain⟨w8,hw8⟩:∃x,x=wc:=⟨_,rfl⟩
     subst hw8
     clear K7 Q7 B7 Y7 D7 R7 x4 Y6 BB HRG GR HN16 hN80
     obtain⟨k0,k1,k2,k3,k4,k5,k6,k7⟩:=eight_cells Q8.out
     have n0:=Cells.cell R8.out 0
     have n1:=Cells.cell R8.out 1
     have n2:=Cells.cell R8.out 2
     have n3:=Cells.cell R8.out 3
     have n4:=Cells.cell R8.out 4
     have n5:=Cells.cell R8.out 5
     have n6:=Cells.cell R8.out 6
     have b9:Below w8.heap.size w8 (w8.alloc (.cells #[.int .i64 v.r.kind,.int .i64 v.r.lba,.int .i64 v.r.n,.int .i64 v.r.ver,.int .i64 v.r.zone,.int .i64 v.r.off,.slice v.D v.r.data.length v.c] 49)):=(Below.refl _ w8).alloc (Nat.le_refl _) _
     have K9:=Lib.hid (upB K8.out PGL.out b9)
     have B9:=Lib.hid (Cells.below B8.out b9)
     have HAD:=addZ (rs:=rsOf L z) hz4 (Y8.out.2.below b9) Y8.out.1 (S1.out.lg.room z a6) (row_rec w8 v) (D8.out.below b9) W8.out.1.good
     clear b9
     rcases hf:decide ((datZ z (rsOf L z++ [v.r])).length≤4000)
     ·rw[hf,cond_false] at HAD
      have HAD:=Lib.hid HAD
      clear hf
      go_upto_region 23 with(go_at_call 25;refine HAD.out.mono ?_;rintro e w9 ⟨Y9,T,tk,td,rfl,-,hb⟩;have K10:=Lib.hid (upB K9.out PGL.out hb);clear hb)
      have bb:Below w9.heap.size w9 (w9.alloc (.cells #[.int .i64 Y9.p.h.host,.int .i64 Y9.p.h.epoch,.int .i64 Y9.p.h.seq,.int .i64 Y9.p.zone,.int .i64 Y9.p.cap,.int .i64 Y9.p.at_,.slice Y9.B Y9.p.buf.length Y9.bc,.slice Y9.L Y9.p.l.length Y9.lc] 78)):=(Below.refl _ w9).alloc (Nat.le_refl _) _
      have K11:=Lib.hid (upB K10.out PGL.out bb)
      generalize w9.alloc (.cells #[.int .i64 Y9.p.h.host,.int .i64 Y9.p.h.epoch,.int .i64 Y9.p.h.seq,.int .i64 Y9.p.zone,.int .i64 Y9.p.cap,.int .i64 Y9.p.at_,.slice Y9.B Y9.p.buf.length Y9.bc,.slice Y9.L Y9.p.l.length Y9.lc] 78)=w10 at*
      clear bb K10 K9 HAD k0 k1 k2 k3 k4 k5 k6 k7 n0 n1 n2 n3 n4 n5 n6 B9
      have S11:Hid (St w w10 n (k+1) g4 g7 pm wm X L ks ws):=(S1.out.below (by have:=K11.out;rw[HPG.out] at this;exact this)).later
      go_wp2_with fail
      go_roundw
      case rel=>exact⟨k+1,X,L,ks,ws,by go_num,by omega,S11⟩
      case measure=>simp[intOf];omega
     ·rw[hf,cond_true] at HAD
      have HAD:=Lib.hid HAD
      have HFT:=Lib.hid (of_decide_eq_true hf)
      clear hf
      go_upto_region 23 with(go_at_call 25;refine HAD.out.mono ?_;rintro e w9 ⟨Y9,T,tk,td,rfl,hY,hb⟩;have K10:=Lib.hid (upB K9.out PGL.out hb);have B10:=Lib.hid (Cells.below B9.out hb);clear hb)
      have bb:Below w9.heap.size w9 (w9.alloc (.cells #[.int .i64 Y9.p.h.host,.int .i64 Y9.p.h.epoch,.int .i64 Y9.p.h.seq,.int .i64 Y9.p.zone,.int .i64 Y9.p.cap,.int .i64 Y9.p.at_,.slice Y9.B Y9.p.buf.length Y9.bc,.slice Y9.L Y9.p.l.length Y9.lc] 78)):=(Below.refl _ w9).alloc (Nat.le_refl _) _
      have K11:=Lib.hid (upB K10.out PGL.out bb)
      have B11:=Lib.hid (Cells.below B10.out bb)
      have T11:Hid (Cells (w9.alloc (.cells #[.int .i64 Y9.p.h.host,.int .i64 Y9.p.h.epoch,.int .i64 Y9.p.h.seq,.int .i64 Y9.p.zone,.int .i64 Y9.p.cap,.int .i64 Y9.p.at_,.slice Y9.B Y9.p.buf.length Y9.bc,.slice Y9.L Y9.p.l.length Y9.lc] 78)) w9.heap.size 78 #[.int .i64 Y9.p.h.host,.int .i64 Y9.p.h.epoch,.int .i64 Y9.p.h.seq,.int .i64 Y9.p.zone,.int .i64 Y9.p.cap,.int .i64 Y9.p.at_,.slice Y9.B Y9.p.buf.length Y9.bc,.slice Y9.L Y9.p.l.length Y9.lc]):=Cells.new _ _ _
      have HFL:=Lib.hid (flushZ (z:=z) (rs:=rsOf L z) ((hY.out trivial).2.1.below bb) (hY.out trivial).1 (hY.out trivial).2.2)
      have GT:Hid (pg≤w9.heap.size∧w9.heap.size<(w9.alloc (.cells #[.int .i64 Y9.p.h.host,.int .i64 Y9.p.h.epoch,.int .i64 Y9.p.h.seq,.int .i64 Y9.p.zone,.int .i64 Y9.p.cap,.int .i64 Y9.p.at_,.slice Y9.B Y9.p.buf.length Y9.bc,.slice Y9.L Y9.p.l.length Y9.lc] 78)).heap.size):=⟨by have:=K10.out.size;have:=PGL.out;omega,by simp⟩
      generalize w9.alloc (.cells #[.int .i64 Y9.p.h.host,.int .i64 Y9.p.h.epoch,.int .i64 Y9.p.h.seq,.int .i64 Y9.p.zone,.int .i64 Y9.p.cap,.int .i64 Y9.p.at_,.slice Y9.B Y9.p.buf.length Y9.bc,.slice Y9.L Y9.p.l.length Y9.lc] 78)=w11 at*
      generalize w9.heap.size=tg at*
      clear bb K10 K9 HAD k0 k1 k2 k3 k4 k5 k6 k7 n0 n1 n2 n3 n4 n5 n6 B9 B10
      obtain⟨k0,k1,k2,k3,k4,k5,k6,k7⟩:=eight_cells T11.out
      go_upto_region 25 with(go_at_call 26;refine HFL.out.mono ?_;rintro e w12 ⟨CB,cd,cm,Y12,rfl,hC,hY12,hb⟩;have K12:=Lib.hid (upB K11.out PGL.out hb);have B12:=Lib.hid (Cells.below B11.out hb);have T12:=Lib.hid (Cells.below T11.out hb);have GC:Hid (tg<w12.heap.size):=T12.out.lt;have f0:(w12.alloc (.cells #[.int .i64 1,.int .i64 (z:Int),.int .i64 0,.int .i64 0,.int .i64 0,.slice CB cm cd] 55)).frozen? ⟨tg,0,none⟩=false:=Cells.frozen (Cells.alloc T12.out _) 0;have f1:(w12.alloc (.cells #[.int .i64 1,.int .i64 (z:Int),.int .i64 0,.int .i64 0,.int .i64 0,.slice CB cm cd] 55)).frozen? ⟨tg,1,none⟩=false:=Cells.frozen (Cells.alloc T12.out _) 1;have f2:(w12.alloc (.cells #[.int .i64 1,.int .i64 (z:Int),.int .i64 0,.int .i64 0,.int .i64 0,.slice CB cm cd] 55)).frozen? ⟨tg,2,none⟩=false:=Cells.frozen (Cells.alloc T12.out _) 2;have f3:(w12.alloc (.cells #[.int .i64 1,.int .i64 (z:Int),.int .i64 0,.int .i64 0,.int .i64 0,.slice CB cm cd] 55)).frozen? ⟨tg,3,none⟩=false:=Cells.frozen (Cells.alloc T12.out _) 3;have f4:(w12.alloc (.cells #[.int .i64 1,.int .i64 (z:Int),.int .i64 0,.int .i64 0,.int .i64 0,.slice CB cm cd] 55)).frozen? ⟨tg,4,none⟩=false:=Cells.frozen (Cells.alloc T12.out _) 4;have f5:(w12.alloc (.cells #[.int .i64 1,.int .i64 (z:Int),.int .i64 0,.int .i64 0,.int .i64 0,.slice CB cm cd] 55)).frozen? ⟨tg,5,none⟩=false:=Cells.frozen (Cells.alloc T12.out _) 5;have f6:(w12.alloc (.cells #[.int .i64 1,.int .i64 (z:Int),.int .i64 0,.int .i64 0,.int .i64 0,.slice CB cm cd] 55)).frozen? ⟨tg,6,none⟩=false:=Cells.frozen (Cells.alloc T12.out _) 6;have f7:(w12.alloc (.cells #[.int .i64 1,.int .i64 (z:Int),.int .i64 0,.int .i64 0,.int .i64 0,.slice CB cm cd] 55)).frozen? ⟨tg,7,none⟩=false:=Cells.frozen (Cells.alloc T12.out _) 7;have z0:=Cells.cell (Cells.alloc T12.out (.cells #[.int .i64 1,.int .i64 (z:Int),.int .i64 0,.int .i64 0,.int .i64 0,.slice CB cm cd] 55)) 0;have z1:=Cells.cell (Cells.alloc T12.out (.cells #[.int .i64 1,.int .i64 (z:Int),.int .i64 0,.int .i64 0,.int .i64 0,.slice CB cm cd] 55)) 1;have z2:=Cells.cell (Cells.alloc T12.out (.cells #[.int .i64 1,.int .i64 (z:Int),.int .i64 0,.int .i64 0,.int .i64 0,.slice CB cm cd] 55)) 2;have z3:=Cells.cell (Cells.alloc T12.out (.cells #[.int .i64 1,.int .i64 (z:Int),.int .i64 0,.int .i64 0,.int .i64 0,.slice CB cm cd] 55)) 3;have z4:=Cells.cell (Cells.alloc T12.out (.cells #[.int .i64 1,.int .i64 (z:Int),.int .i64 0,.int .i64 0,.int .i64 0,.slice CB cm cd] 55)) 4;have z5:=Cells.cell (Cells.alloc T12.out (.cells #[.int .i64 1,.int .i64 (z:Int),.int .i64 0,.int .i64 0,.int .i64 0,.slice CB cm cd] 55)) 5;have z6:=Cells.cell (Cells.alloc T12.out (.cells #[.int .i64 1,.int .i64 (z:Int),.int .i64 0,.int .i64 0,.int .i64 0,.slice CB cm cd] 55)) 6;have z7:=Cells.cell (Cells.alloc T12.out (.cells #[.int .i64 1,.int .i64 (z:Int),.int .i64 0,.int .i64 0,.int .i64 0,.slice CB cm cd] 55)) 7;clear hb)
      clear z0 z1 z2 z3 z4 z5 z6 z7 f0 f1 f2 f3 f4 f5 f6 f7 k0 k1 k2 k3 k4 k5 k6 k7
      have bb:Below w12.heap.size w12 (w12.alloc (.cells #[.int .i64 1,.int .i64 (z:Int),.int .i64 0,.int .i64 0,.int .i64 0,.slice CB cm cd] 55)):=(Below.refl _ w12).alloc (Nat.le_refl _) _
      have bt:=Pk.mov8 (w12.alloc (.cells #[.int .i64 1,.int .i64 (z:Int),.int .i64 0,.int .i64 0,.int .i64 0,.slice CB cm cd] 55)) tg (.int .i64 Y12.p.h.host) (.int .i64 Y12.p.h.epoch) (.int .i64 Y12.p.h.seq) (.int .i64 Y12.p.zone) (.int .i64 Y12.p.cap) (.int .i64 Y12.p.at_) (.slice Y12.B Y12.p.buf.length Y12.bc) (.slice Y12.L Y12.p.l.length Y12.lc)
      have qs:=Pk.set8 (Cells.below T12.out bb) (.int .i64 Y12.p.h.host) (.int .i64 Y12.p.h.epoch) (.int .i64 Y12.p.h.seq) (.int .i64 Y12.p.zone) (.int .i64 Y12.p.cap) (.int .i64 Y12.p.at_) (.slice Y12.B Y12.p.buf.length Y12.bc) (.slice Y12.L Y12.p.l.length Y12.lc)
      unfold Pk.set8W at bt qs
      have cg:=Chg.mov (Cells.below T12.out bb) bt
      have hgt:=GT.out
      have hgc:=GC.out
      have Q13:=Lib.hid (show Cells _ w12.heap.size 55 #[.int .i64 1,.int .i64 (z:Int),.int .i64 0,.int .i64 0,.int .i64 0,.slice CB cm cd] from(Cells.new _ _ _).mov bt (by simp;omega))
      have K13:=Lib.hid ((upB K12.out PGL.out bb).trans (bt.below (by have:=(upB K12.out PGL.out bb).size;have:=PGL.out;omega) (by intro x hx;rw[List.mem_singleton] at hx;omega)))
      have hxt:xg<tg:=by have:=B11.out.lt;have:=HPG.out;have:=B1.out.lt;omega
      have B13:=Lib.hid ((Cells.below B12.out bb).mov bt (by simp;omega))
      have T13:=Lib.hid qs
      have C13:=Lib.hid (cg.ownI (Mem.Owns.below hC.out.2.1 bb) (by decide))
      have R13:=Lib.hid (Wire.gave_row C13.out (by rw[←hC.out.1];have:=hC.out.2.2;omega)).1
      have HDO:=Lib.hid (doZ (S1.out.dev.below (by have:=K13.out;rw[HPG.out] at this;exact this)) S1.out.px hn1 hn4 S1.out.ok a6 HFT.out hC.out.1 R13.out)
      have E13:=Lib.hid (S1.out.c7.below (by have:=K13.out;rw[HPG.out] at this;exact this))
      clear bb bt qs cg hgt hgc K12 B12 T12 K11 B11 T11 HFL hC C13 R13 GC
      generalize hcg:w12.heap.size=cg at*
      generalize(((((((((w12.alloc (.cells #[.int .i64 1,.int .i64 (z:Int),.int .i64 0,.int .i64 0,.int .i64 0,.slice CB cm cd] 55)).setCell ⟨tg,0,none⟩ (.int .i64 Y12.p.h.host)).setCell ⟨tg,1,none⟩ (.int .i64 Y12.p.h.epoch)).setCell ⟨tg,2,none⟩ (.int .i64 Y12.p.h.seq)).setCell ⟨tg,3,none⟩ (.int .i64 Y12.p.zone)).setCell ⟨tg,4,none⟩ (.int .i64 Y12.p.cap)).setCell ⟨tg,5,none⟩ (.int .i64 Y12.p.at_)).setCell ⟨tg,6,none⟩ (.slice Y12.B Y12.p.buf.length Y12.bc)).setCell ⟨tg,7,none⟩ (.slice Y12.L Y12.p.l.length Y12.lc))=w13 at*
      clear hcg
      have GC2:Hid (tg<w13.heap.size):=T13.out.lt
      have m0:=Cells.cell E13.out 0
      have m1:=Cells.cell E13.out 1
      have m2:=Cells.cell E13.out 2
      have m3:=Cells.cell E13.out 3
      have p0:=Cells.cell Q13.out 0
      have p1:=Cells.cell Q13.out 1
      have p2:=Cells.cell Q13.out 2
      have p3:=Cells.cell Q13.out 3
      have p4:=Cells.cell Q13.out 4
      have p5:=Cells.cell Q13.out 5
      go_upto_region 26 with(go_at_call 16;refine HDO.out.mono ?_;rintro e w14 ⟨X14,at_,DC,dk,rfl,hX,hb⟩;have K14:=Lib.hid (upB K13.out PGL.out hb);have B14:=Lib.hid (Cells.below B13.out hb);have T14:=Lib.hid (Cells.below T13.out hb);have E14:=Lib.hid (Cells.below E13.out hb);have GW:=Lib.hid hb.size;clear hb)
      have bb:Below w14.heap.size w14 ((w14.alloc (.cells #[.int .i64 X14.cap,.int .i64 X14.op,.int .i64 X14.ac,.slice X14.A X14.n X14.c] 26)).alloc (.cells #[.int .i64 0,.int .i64 at_,.slice DC 0 dk] 51)):=((Below.refl _ w14).alloc (Nat.le_refl _) _).alloc (by simp) _
      have K15:=Lib.hid (upB K14.out PGL.out bb)
      have B15:=Lib.hid (Cells.below B14.out bb)
      have T15:=Lib.hid (Cells.below T14.out bb)
      have E15:=Lib.hid (Cells.below E14.out bb)
      have X15:Hid (DevAt ((w14.alloc (.cells #[.int .i64 X14.cap,.int .i64 X14.op,.int .i64 X14.ac,.slice X14.A X14.n X14.c] 26)).alloc (.cells #[.int .i64 0,.int .i64 at_,.slice DC 0 dk] 51)) X14∧X14.p=dvOf n (L++ [(z,v.r)])∧okD (dvOf n (L++ [(z,v.r)]))=true∧Fre w13.heap.size X14):=⟨hX.out.1.below bb,hX.out.2⟩
      have N15:Hid (Cells ((w14.alloc (.cells #[.int .i64 X14.cap,.int .i64 X14.op,.int .i64 X14.ac,.slice X14.A X14.n X14.c] 26)).alloc (.cells #[.int .i64 0,.int .i64 at_,.slice DC 0 dk] 51)) w14.heap.size 26 #[.int .i64 X14.cap,.int .i64 X14.op,.int .i64 X14.ac,.slice X14.A X14.n X14.c]):=(Cells.new _ _ _).alloc _
      have M15:Hid (Cells ((w14.alloc (.cells #[.int .i64 X14.cap,.int .i64 X14.op,.int .i64 X14.ac,.slice X14.A X14.n X14.c] 26)).alloc (.cells #[.int .i64 0,.int .i64 at_,.slice DC 0 dk] 51)) (w14.heap.size+1) 51 #[.int .i64 0,.int .i64 at_,.slice DC 0 dk]):=by
       have:=Cells.new (w14.alloc (.cells #[.int .i64 X14.cap,.int .i64 X14.op,.int .i64 X14.ac,.slice X14.A X14.n X14.c] 26)) #[.int .i64 0,.int .i64 at_,.slice DC 0 dk] 51
       rw[World.size_alloc] at this
       exact this
      clear bb m0 m1 m2 m3 p0 p1 p2 p3 p4 p5 K14 B14 T14 E14 K13 B13 T13 E13 Q13 HDO hX
      try simp only[World.size_alloc]
      generalize(w14.alloc (.cells #[.int .i64 X14.cap,.int .i64 X14.op,.int .i64 X14.ac,.slice X14.A X14.n X14.c] 26)).alloc (.cells #[.int .i64 0,.int .i64 at_,.slice DC 0 dk] 51)=w15 at*
      generalize w14.heap.size=dg at*
      have q0:=Cells.cell M15.out 0
      go_upto_region 28 with fail
      have m0:=Cells.cell N15.out 0
      have m1:=Cells.cell N15.out 1
      have m2:=Cells.cell N15.out 2
      have m3:=Cells.cell N15.out 3
      have p0:=Cells.cell E15.out 0
      have p1:=Cells.cell E15.out 1
      have p2:=Cells.cell E15.out 2
      have p3:=Cells.cell E15.out 3
      have f0:=Cells.frozen E15.out 0
      have f1:=Cells.frozen E15.out 1
      have f2:=Cells.frozen E15.out 2
      have f3:=Cells.frozen E15.out 3
      go_upto_region 29 with fail
      clear q0 m0 m1 m2 m3 p0 p1 p2 p3 f0 f1 f2 f3
      have bt:=Pk.mov4 w15 g7 (.int .i64 X14.cap) (.int .i64 X14.op) (.int .i64 X14.ac) (.slice X14.A X14.n X14.c)
      have qs:=Pk.set4 E15.out (.int .i64 X14.cap) (.int .i64 X14.op) (.int .i64 X14.ac) (.slice X14.A X14.n X14.c)
      unfold Pk.set4W at bt qs
      have S15:=Lib.hid (S1.out.below (by have:=K15.out;rw[HPG.out] at this;exact this))
      have low:=S15.out.low
      have hgt:=GT.out
      have hfx:=FX.out
      have hf0:=F0.out
      have hpg:=HPG.out
      have B16:=Lib.hid (B15.out.mov bt (by simp;omega))
      have T16:=Lib.hid (T15.out.mov bt (by simp;omega))
      have BT:=Lib.hid bt
      have E16:=Lib.hid qs
      obtain⟨w17,hput,hM17,hmv17,hsz17⟩:=putPk (S15.out.mp.mov bt (by simp;omega)) (z:Int) Y12
      have hqq:Hid (wm<w13.heap.size):=by
       show _<_
       have:=GC2.out;omega
      generalize((((w15.setCell ⟨g7,0,none⟩ (.int .i64 X14.cap)).setCell ⟨g7,1,none⟩ (.int .i64 X14.op)).setCell ⟨g7,2,none⟩ (.int .i64 X14.ac)).setCell ⟨g7,3,none⟩ (.slice X14.A X14.n X14.c))=w16 at*
      have B17:=Lib.hid (B16.out.mov hmv17 (by simp;omega))
      have MV17:=Lib.hid hmv17
      have M17:=Lib.hid hM17
      have HNX:Hid (xg≠wm):=by show _≠_;omega
      obtain⟨k0,k1,k2,k3,k4,k5,k6,k7⟩:=eight_cells T16.out
      clear bt qs low hgt hfx hf0 hpg hmv17 hM17 hsz17 E15 B15 T15 N15 M15 K15 T16 B16 GT GC2
      go_upto_region 30 with fail
      clear k0 k1 k2 k3 k4 k5 k6 k7 hput
      have MW17:Hid (MWt w17 wm ws):=(S15.out.mw.mov BT.out (by have:=S15.out.low;simp;omega)).mov MV17.out (by have:=S15.out.low;simp;omega)
      obtain⟨TB,hTB⟩:∃l,l=List.replicate 16 xb:=⟨_,rfl⟩
      obtain⟨TZ,hTZ⟩:∃l,l=List.replicate 16 0#8:=⟨_,rfl⟩
      have HTB:Hid (TB=List.replicate 16 xb∧TZ=List.replicate 16 0#8∧TB.length≤140737488351232∧TZ.length≤140737488351232):=⟨hTB,hTZ,by rw[hTB,List.length_replicate];omega,by rw[hTZ,List.length_replicate];omega⟩
      clear hTB hTZ
      have HF:∀W,Hid (Calls Tryz.prog 14 #[.int .u8 bn,.int .i64 16] W fun e w'=>∃A,e= .returned (.slice A 16 16)∧OwnB W.heap.size w' A 16 16 TB∧Below W.heap.size W w'):=fun W=>by
       have:=fill_any xb (n:=16) (by omega) W
       rw[HBN.out,←HTB.out.1] at this
       exact this
      have HF0:∀W,Hid (Calls Tryz.prog 14 #[.int .u8 0,.int .i64 16] W fun e w'=>∃A,e= .returned (.slice A 16 16)∧OwnB W.heap.size w' A 16 16 TZ∧Below W.heap.size W w'):=fun W=>by
       have:=fill_any 0#8 (n:=16) (by omega) W
       rw[←HTB.out.2.1] at this
       exact this
      have HLB:=Lib.hid b6
      go_wp2_with fail
      go_loopw [28,135] (fun _ i wi=>∃(j:Nat) (ws':List (Int × List (BitVec 8))),i= .int .i64 j∧j≤nr∧Hid (Mov [wm] w17 wi∧MWt wi wm ws'∧∀i:Int,getB ws' i=bif decide ((lb:Int)≤i)&&decide (i<(lb:Int)+(j:Int)) then some (bif xt then TZ else TB) else getB ws i)) (fun _ i _=>nr-(intOf i).toNat)
      case atStart=>
       refine⟨0,ws,rfl,by omega,Mov.refl _ _,MW17.out,fun i=> ?_⟩
       have:(decide ((lb:Int)≤i)&&decide (i<(lb:Int)+((0:Nat):Int)))=false:=by
        rw[Bool.and_eq_false_iff];simp only[decide_eq_false_iff_not];omega
       rw[this];rfl
      case round=>
       obtain⟨j,ws',rfl,hj,hI⟩:=hrel
       by_cases hjl:j<nr
       ·have hj0:(0:Int)≤(j:Int):=by omega
        have hj1:(j:Int)<(nr:Int):=by omega
        have B18:=Lib.hid (B17.out.mov hI.out.1 (by simp;have:=HNX.out;omega))
        have x3:wr.cell? ⟨xg,3,none⟩=some (.int .u8 bn):=Cells.cell B18.out 3
        have NX:∀(V:List (BitVec 8)) (us:List (Int × List (BitVec 8))),(V=bif xt then TZ else TB)→(∀i:Int,getB us i=if i=(lb:Int)+(j:Int) then some V else getB ws' i)→Hid (∀i:Int,getB us i=bif decide ((lb:Int)≤i)&&decide (i<(lb:Int)+((j+1:Nat):Int)) then some (bif xt then TZ else TB) else getB ws i):=by
         intro V us hV hu i
         rw[hu i,hI.out.2.2 i,hV]
         by_cases e:i=(lb:Int)+(j:Int)
         ·rw[if_pos e]
          have:(decide ((lb:Int)≤i)&&decide (i<(lb:Int)+((j+1:Nat):Int)))=true:=by
           rw[Bool.and_eq_true];simp only[decide_eq_true_eq];omega
          rw[this];rfl
         ·rw[if_neg e]
          have:decide (i<(lb:Int)+((j+1:Nat):Int))=decide (i<(lb:Int)+(j:Int)):=by
           rw[decide_eq_decide];omega
          rw[this]
        go_upto_region 34 with(first
         |(go_at_call 14;refine(HF wr).out.mono ?_;rintro e w18 ⟨FA,rfl,hO,hb⟩
           have hstr:=run_str (Wire.gave_row hO HTB.out.2.2.1).1
           obtain⟨w19,hput,hM19,hmv19,-⟩:=putWt (hI.out.2.1.below hb) ((lb:Int)+(j:Int)) TB
           have MV18:=Lib.hid ((hI.out.1.trans (Mov.of_below [wm] hb) (fun _ h=> .inl h)).trans hmv19 (fun _ h=> .inl h))
           have M19:=Lib.hid hM19
           have B19:=Lib.hid ((Cells.below B18.out hb).mov hmv19 (by simp;have:=HNX.out;omega))
           have x4:=Cells.cell B19.out 4
           clear hM19 hmv19 hb hO))
        clear hput hstr x3
        have HWK:=Lib.hid (NX)
        clear NX
        rcases xt
        ·go_wp2_with fail
         go_roundw
         case rel=>exact⟨j+1,_,by go_num,by omega,MV18.out,M19.out,(HWK.out TB _ rfl (fun i=>by rw[GM.get_set])).out⟩
         case measure=>simp[intOf];omega
        ·go_wp2_with (first
           |(go_at_call 14;refine(HF0 w19).out.mono ?_;rintro e w20 ⟨FA2,rfl,hO,hb⟩
             have hstr:=run_str (Wire.gave_row hO HTB.out.2.2.2).1
             obtain⟨w21,hput,hM21,hmv21,-⟩:=putWt (M19.out.below hb) ((lb:Int)+(j:Int)) TZ
             have MV21:=Lib.hid ((MV18.out.trans (Mov.of_below [wm] hb) (fun _ h=> .inl h)).trans hmv21 (fun _ h=> .inl h))
             have M21:=Lib.hid hM21
             clear hM21 hmv21 hb hO))
         clear hput hstr
         go_roundw
         case rel=>exact⟨j+1,_,by go_num,by omega,MV21.out,M21.out,(HWK.out TZ _ rfl (fun i=>by rw[GM.get_set,GM.get_set];split<;>rfl)).out⟩
         case measure=>simp[intOf];omega
       ·obtain rfl:j=nr:=by omega
        have HW:=hI.out
        have hn1:=W8.out.2.2.1
        have hn2:=W8.out.2.2.2
        have S18:Hid (St w _ n (k+1) g4 g7 pm wm X14 (L++ [(z,v.r)]) (setB ks (z:Int) Y12) ws'):=S15.out.next a6 W8.out.1 HFT.out X15.out.1 X15.out.2.1 X15.out.2.2.1 X15.out.2.2.2 hqq.out BT.out E16.out MV17.out M17.out (hY12.out.1) (hY12.out.2) HW.1 HW.2.1 (fun i=>by
         rw[HW.2.2 i,W8.out.2.1,HTB.out.1,HTB.out.2.1]
         unfold covB
         rw[hn1,hn2])
        clear HW hn1 hn2
        go_wp2_with fail
        go_roundw
        case rel=>exact⟨k+1,X14,L++ [(z,v.r)],setB ks (z:Int) Y12,ws',by go_num,by omega,S18⟩
        case measure=>simp[intOf];omega
  ·obtain rfl:k=m:=by omega
   have m0:=Cells.cell hS.out.c7 0
   have m1:=Cells.cell hS.out.c7 1
   have m2:=Cells.cell hS.out.c7 2
   have m3:=Cells.cell hS.out.c7 3
   have p0:=Cells.cell hS.out.c4 0
   have p1:=Cells.cell hS.out.c4 1
   have p2:=Cells.cell hS.out.c4 2
   have p3:=Cells.cell hS.out.c4 3
   have f0:=Cells.frozen hS.out.c4 0
   have f1:=Cells.frozen hS.out.c4 1
   have f2:=Cells.frozen hS.out.c4 2
   have f3:=Cells.frozen hS.out.c4 3
   go_wp2_with fail
   have bt:=Pk.mov4 wr g4 (.int .i64 X.cap) (.int .i64 X.op) (.int .i64 X.ac) (.slice X.A X.n X.c)
   have qs:=Pk.set4 hS.out.c4 (.int .i64 X.cap) (.int .i64 X.op) (.int .i64 X.ac) (.slice X.A X.n X.c)
   unfold Pk.set4W at bt qs
   have hl:=hS.out.low
   have hsz:=hS.out.lw.size
   refine bodyPost_ret_by (Ext.results_c2 rfl _ _ g4 _ _ _ _ rfl qs Tryz.underlying26 rfl (by kernel_rfl)) rfl ?_
   exact⟨X,L,wm,ws,rfl,Lib.hid ⟨devAt_mov hS.out.dev bt (fun g hg=>hS.out.ax g (by rw[List.mem_singleton] at hg;simp[hg])),hS.out.px,hS.out.ok,hS.out.lg,hS.out.mw.mov bt (by simp;omega),hS.out.wt,hS.out.lw.trans (bt.below hsz (by intro x hx;rw[List.mem_singleton] at hx;omega)),by omega⟩⟩
end Rp
end
section
open Go.RowKit Mem Box Zns
namespace Rp
open Seg (Hdr Rc Rv fits nums hnums nn frame headX recX frames check)
open Pk (zoneOf placeR flen)
open Zon (Zn Zv B8)
open Vm (exR Offd)
open Ext (MayX Ok tell blk has lookP rangeB rangeB_iff extB blkB RowL OwnsL)
theorem cov_iff {r:Rc} {k:Int}:covB r k=true↔r.lba≤k∧k<r.lba+r.n:=by unfold covB;rw[Bool.and_eq_true,decide_eq_true_eq,decide_eq_true_eq]
theorem wantL_none {k:Int}:∀ {L:Lg},(∀x∈L,covB x.2 k=false)→wantL L k=none:=by
 intro L h
 have key:∀(L:Lg) (o:Option (List B8)),(∀x∈L,covB x.2 k=false)→L.foldl (fun o x=>bif covB x.2 k then some (txR x.2) else o) o=o:=by
  intro L
  induction L with
  |nil=>intro o _;rfl
  |cons a t ih=>
   intro o h
   rw[List.foldl_cons,h a (by simp)]
   exact ih o fun x hx=>h x (by simp[hx])
 exact key L none h
theorem wantL_some {k:Int} {n:Nat}:∀ {L:Lg},L.length≤n→L.Pairwise (fun x y=>x.2.ver<y.2.ver)→∀x∈L,covB x.2 k=true→(∀y∈L,covB y.2 k=true→y.2.ver≤x.2.ver)→wantL L k=some (txR x.2):=by
 induction n with
 |zero=>
  intro L hl _ x hx
  rw[List.eq_nil_of_length_eq_zero (by omega:L.length=0)] at hx
  cases hx
 |succ n ih=>
  intro L hl hp x hx hc hm
  rcases List.eq_nil_or_concat L with rfl|⟨L',a,rfl⟩
  ·cases hx
  ·rw[List.concat_eq_append] at*
   obtain⟨h1,-,h3⟩:=List.pairwise_append.1 hp
   rw[show L'++ [a]=L'++ [(a.1,a.2)] from rfl,wantL_snoc]
   rcases ha:covB a.2 k
   ·rcases List.mem_append.1 hx with q|q
    ·exact ih (by rw[List.length_append] at hl;simp at hl;omega) h1 x q hc fun y hy=>hm y (by simp[hy])
    ·rw[List.mem_singleton.1 q,ha] at hc;cases hc
   ·have hle:=hm a (by simp) ha
    rcases List.mem_append.1 hx with q|q
    ·have:=h3 x q a (by simp);omega
    ·rw[List.mem_singleton.1 q];rfl
def W16 (L:Lg) (k:Int):List B8:=(wantL L k).getD (List.replicate 16 0#8)
theorem txR_len {r:Rc} (h:WR r.ver r):(txR r).length=16:=by
 unfold txR
 rcases h.is with⟨hk,b,hd⟩|⟨hk,hd⟩
 ·rw[hk,hd]
  show((List.replicate (16*r.n.toNat) b).take 16).length=16
  rw[List.length_take,List.length_replicate]
  have:=h.n1;omega
 ·rw[hk];rfl
theorem blk_tx {r:Rc} (h:WR r.ver r) {z:Nat} {o k:Int} {D:List B8} (dat:Int→List B8) (hd:dat (z:Int)=D) (ho:0≤o) (hD:(D.drop o.toNat).take r.data.length=r.data) (hc:r.lba≤k∧k<r.lba+r.n):blkB dat (blk (exR r (z:Int) o) k)=txR r:=by
 have hn:=h.n1
 rcases h.is with⟨hk,b,hdd⟩|⟨hk,hdd⟩
 ·have e:exR r (z:Int) o=⟨r.lba,r.n,r.ver,(z:Int),o⟩:=by unfold exR;rw[hk];rfl
  rw[e]
  obtain⟨i,hi⟩:∃i:Nat,k=r.lba+(i:Int):=⟨(k-r.lba).toNat,by omega⟩
  have hz:¬(z:Int)= -1:=by omega
  show(if(z:Int)= -1 then List.replicate 16 0#8 else((dat (z:Int)).drop (if(z:Int)= -1 then(0:Int) else o+16*(k-r.lba)).toNat).take 16)=txR r
  rw[if_neg hz,if_neg hz,hd]
  have ht:(o+16*(k-r.lba)).toNat=o.toNat+16*i:=by omega
  have hl:r.data.length=16*r.n.toNat:=by rw[hdd,List.length_replicate]
  have e1:(D.drop (o.toNat+16*i)).take 16=(r.data.drop (16*i)).take 16:=by
   have:r.data=(D.drop o.toNat).take (16*r.n.toNat):=by rw[←hl];exact hD.symm
   conv=>rhs;rw[this]
   rw[List.drop_take,List.take_take,List.drop_drop,Nat.min_eq_left (by omega)]
  rw[ht,e1]
  unfold txR
  rw[hk,hdd]
  show((List.replicate (16*r.n.toNat) b).drop (16*i)).take 16=(List.replicate (16*r.n.toNat) b).take 16
  rw[List.drop_replicate,List.take_replicate,List.take_replicate,Nat.min_eq_left (by omega),Nat.min_eq_left (by omega)]
 ·have e:exR r (z:Int) o=⟨r.lba,r.n,r.ver,-1,0⟩:=by unfold exR;rw[hk];rfl
  rw[e]
  unfold txR
  rw[hk];rfl
theorem exR_has {r:Rc} {z o k:Int}:has (exR r z o) k↔covB r k=true:=by
 rw[cov_iff]
 unfold exR has Ext.Ex.en
 cases (r.kind==2)<;>exact Iff.rfl
theorem exR_ver (r:Rc) (z o:Int):(exR r z o).ver=r.ver:=by unfold exR;cases (r.kind==2)<;>rfl
section
variable {X:Dx} {n m:Nat} {L:Lg} {w:World} {mp:List Ext.Ex}
theorem dat_of (hX:DevAt w X) (hp:X.p=dvOf n L) {z:Nat} (hz:z<n):∃v,X.xs[z]? =some v∧v.z.data=datZ z (rsOf L z)∧datX X (z:Int)=datZ z (rsOf L z):=by
 have e1:X.p.zs[z]? =some (zoneOf 4000 0 (datZ z (rsOf L z))):=by rw[hp];exact zsOf_get L hz
 have e2:X.p.zs[z]? =X.xs[z]?.map Zv.z:=by show(X.xs.map Zv.z)[z]? =_;rw[List.getElem?_map]
 rw[e2] at e1
 obtain⟨v,hv,hzz⟩:=Option.map_eq_some_iff.1 e1
 refine⟨v,hv,by rw[hzz];rfl,?_⟩
 show(match X.xs[((z:Nat):Int).toNat]? with|some v=>v.z.data|none=> [])=_
 rw[Int.toNat_natCast,hv]
 show v.z.data=_
 rw[hzz];rfl
structure MapOk (X:Dx) (L:Lg) (mp:List Ext.Ex):Prop where
 ok:Ok 0 mp
 few:mp.length≤20000
 inb:∀j b,tell mp j=some b→InB X b
 told:∀k:Int,0≤k→blkB (datX X) ((tell mp k).getD (0,-1,0))=W16 L k∧(tell mp k).isSome=(wantL L k).isSome
theorem map_ok (hX:DevAt w X) (hp:X.p=dvOf n L) (hn:n≤4) (hl:LgOk n m L) (hm:m≤40) (ho:Offd ((trAll (fsOf n L) (List.range n)).map exT) mp):MapOk X L mp:=by
 have hg:=good_of hl hn
 have hmay:∀x∈(trAll (fsOf n L) (List.range n)).map exT,MayX x:=fun x hx=>by
  obtain⟨t,ht,rfl⟩:=List.mem_map.1 hx
  exact(hg t ht).may
 have hok:=offd_ok hmay ho
 have hall:∀k:Int,0≤k→(tell mp k=none∧wantL L k=none)∨∃t∈trAll (fsOf n L) (List.range n),covB t.1 k=true∧tell mp k=some (blk (exT t) k)∧wantL L k=some (txR t.1):=by
  intro k hk
  rcases offd_tell hmay ho hk with⟨h1,h2⟩|⟨x,hx,h1,h2,h3⟩
  ·refine .inl ⟨h1,wantL_none fun y hy=> ?_⟩
   obtain⟨t,ht,h4,h5⟩:=(mem_tr hl).1 hy
   rcases hc:covB y.2 k
   ·rfl
   ·exact absurd (exR_has.2 (by rw[h5];exact hc)) (h2 (exT t) (List.mem_map.2 ⟨t,ht,rfl⟩))
  ·obtain⟨t,ht,rfl⟩:=List.mem_map.1 hx
   have hc:covB t.1 k=true:=exR_has.1 h1
   refine .inr ⟨t,ht,hc,h2,?_⟩
   have hmem:(t.2.1.toNat,t.1)∈L:=(mem_tr hl).2 ⟨t,ht,by obtain⟨z,-,-,-,h5,-⟩:=hl.tr ht;show t.2.1=((t.2.1.toNat:Nat):Int);omega,rfl⟩
   refine wantL_some (x:=(t.2.1.toNat,t.1)) (Nat.le_refl _) hl.rise hmem hc fun y hy hcy=> ?_
   obtain⟨u,hu,h4,h5⟩:=(mem_tr hl).1 hy
   have:=h3 (exT u) (List.mem_map.2 ⟨u,hu,rfl⟩) (exR_has.2 (by rw[h5];exact hcy))
   unfold exT at this
   rw[exR_ver,exR_ver,h5] at this
   exact this
 refine⟨hok,?_,fun j b hb=> ?_,fun k hk=> ?_⟩
 ·obtain⟨r,hpm,hv,rfl⟩:=ho
  have h2:=Vm.offd_may hmay hpm
  have h3:=Vm.put_none_len h2.1
  rw[List.length_map,h2.2,List.length_map,trAll_len hl] at h3
  have h4:=hl.few
  have h5:L.length*L.length≤40*40:=Nat.mul_le_mul (by omega) (by omega)
  omega
 ·have hj:0≤j:=by
    rcases Int.lt_or_le j 0 with q|q
    ·rw[Ext.tell_low hok q] at hb;cases hb
    ·exact q
  rcases hall j hj with⟨h1,-⟩|⟨t,ht,hc,h2,-⟩
  ·rw[h1] at hb;cases hb
  ·rw[h2] at hb
   injection hb with hb
   obtain⟨z,hz,hr,hw,h3,h4,h5,h6⟩:=hl.tr ht
   obtain⟨v,hv,hvd,-⟩:=dat_of hX hp hz
   have hcc:=cov_iff.1 hc
   rcases hw.is with⟨hk,bb,hd⟩|⟨hk,hd⟩
   ·have e:exT t=⟨t.1.lba,t.1.n,t.1.ver,(z:Int),t.2.2⟩:=by unfold exT exR;rw[hk,h3];rfl
    rw[←hb,e]
    refine .inr ⟨z,v,rfl,hv,?_⟩
    have hlen:t.1.data.length=16*t.1.n.toNat:=by rw[hd,List.length_replicate]
    show(if(z:Int)= -1 then(0:Int) else t.2.2+16*(j-t.1.lba))+16≤_
    rw[if_neg (by omega),hvd]
    have:=hw.n1
    omega
   ·have e:exT t=⟨t.1.lba,t.1.n,t.1.ver,-1,0⟩:=by unfold exT exR;rw[hk];rfl
    rw[←hb,e]
    exact .inl rfl
 ·rcases hall k hk with⟨h1,h2⟩|⟨t,ht,hc,h2,h3⟩
  ·unfold W16
   rw[h1,h2]
   exact⟨rfl,rfl⟩
  ·obtain⟨z,hz,hr,hw,h4,h5,h6,h7⟩:=hl.tr ht
   obtain⟨v,hv,hvd,hdx⟩:=dat_of hX hp hz
   unfold W16
   rw[h2,h3]
   refine⟨?_,rfl⟩
   show blkB (datX X) (blk (exR t.1 t.2.1 t.2.2) k)=txR t.1
   rw[h4]
   exact blk_tx hw (datX X) hdx h5 h7 (cov_iff.1 hc)
end
end Rp
end
section
open Go.RowKit Mem Box Zns
namespace Rp
open Zon (Zn Zv B8)
open Vm (exR Offd)
open Ext (MayX Ok tell blk has lookP rangeB rangeB_iff extB blkB RowL OwnsL)
section
variable {X:Dx} {n m:Nat} {L:Lg} {w:World}
theorem map_run (hX:DevAt w X) (hp:X.p=dvOf n L) (hok:okD (dvOf n L)=true) (hn:n≤4) (hl:LgOk n m L) (hm:m≤40):
  Calls Tryz.prog 10 #[.agg #[.int .i64 X.cap,.int .i64 X.op,.int .i64 X.ac,.slice X.A X.n X.c],.slice none 0 0] w fun e w'=>∃(B:Option Addr) (q d:Nat) (mp:List Ext.Ex),e= .returned (.tuple #[.slice B q d,.int .i64 0])∧Hid (RowL w' B q d mp∧MapOk X L mp∧q≤20000)∧Below w.heap.size w w':=by
 have hD:=dev_of hl hn hX hp hok
 have hXn:X.n=n:=by rw[←hX.plen,hp];exact zsOf_len n L
 refine(map_all hD (by rw[hXn];exact good_of hl hn) (by rw[hXn,trAll_len hl];have:=hl.few;omega)).mono ?_
 rw[hXn]
 rintro e w' ⟨mp,hof,⟨B,q,d,rfl,hO⟩,hb⟩
 have hM:=map_ok hX hp hn hl hm hof
 have hq:q=mp.length:=hO.2.symm
 exact⟨B,q,d,mp,rfl,⟨OwnsL.row hO (by have:=hM.few;omega),hM,by have:=hM.few;omega⟩,hb⟩
def blocksW (L:Lg) (a:Int) (k:Nat):List B8:=(List.range k).flatMap fun(i:Nat)=>W16 L (a+(i:Int))
theorem W16_len (hl:LgOk n m L) (k:Int):(W16 L k).length=16:=by
 unfold W16
 have key:∀(L:Lg) (o:Option (List B8)),(∀x∈L,(txR x.2).length=16)→(∀l,o=some l→l.length=16)→∀l,L.foldl (fun o x=>bif covB x.2 k then some (txR x.2) else o) o=some l→l.length=16:=by
  intro L
  induction L with
  |nil=>intro o _ h l e;exact h l e
  |cons a t ih=>
   intro o h1 h2 l e
   rw[List.foldl_cons] at e
   refine ih _ (fun x hx=>h1 x (by simp[hx])) (fun l' e'=> ?_) l e
   cases hc:covB a.2 k<;>rw[hc] at e'
   ·exact h2 l' e'
   ·injection e' with e';rw[←e'];exact h1 a (by simp)
 rcases hw:wantL L k with _|l
 ·simp
 ·exact key L none (fun x hx=>txR_len (hl.at_ x hx).2.1) (by simp) l hw
theorem blocksW_len (hl:LgOk n m L) (a:Int) (k:Nat):(blocksW L a k).length=16*k:=by
 unfold blocksW
 induction k with
 |zero=>rfl
 |succ k ih=>rw[List.range_succ,List.flatMap_append,List.length_append,ih];simp[W16_len hl];omega
theorem blocksW_at (hl:LgOk n m L) (a:Int):∀(k:Nat) {i:Nat},i<k→((blocksW L a k).drop (16*i)).take 16=W16 L (a+(i:Int))
 |0,i,h=>by omega
 |k+1,i,h=>by
  have e:blocksW L a (k+1)=blocksW L a k++W16 L (a+(k:Int)):=by unfold blocksW;rw[List.range_succ,List.flatMap_append];simp
  have hk:=blocksW_len hl a k
  rw[e]
  by_cases hi:i<k
  ·rw[List.drop_append_of_le_length (by omega),List.take_append_of_le_length (by rw[List.length_drop];omega)]
   exact blocksW_at hl a k hi
  ·obtain rfl:i=k:=by omega
   rw[List.drop_append,List.drop_eq_nil_of_le (by omega),List.nil_append,hk,Nat.sub_self,List.drop_zero]
   exact List.take_of_length_le (by rw[W16_len hl];omega)
theorem blocksW_one (L:Lg) (a:Int):blocksW L a 1=W16 L a:=by
 unfold blocksW
 rw[show List.range 1= [0] from rfl,List.flatMap_cons,List.flatMap_nil,List.append_nil,show a+((0:Nat):Int)=a by omega]
theorem blocksW_far (hl:LgOk n m L) {a:Int} (ha:60≤a):∀k:Nat,blocksW L a k=List.replicate (16*k) 0#8
 |0=>rfl
 |k+1=>by
  have e:blocksW L a (k+1)=blocksW L a k++W16 L (a+(k:Int)):=by unfold blocksW;rw[List.range_succ,List.flatMap_append];simp
  have hw:W16 L (a+(k:Int))=List.replicate 16 0#8:=by
   unfold W16
   rw[wantL_none fun x hx=> ?_]
   ·rfl
   ·have h:=(hl.at_ x hx).2.1
    have h1:=h.l1
    have h2:=h.n5
    rcases hc:covB x.2 (a+(k:Int))
    ·rfl
    ·have:=cov_iff.1 hc;omega
  rw[e,blocksW_far hl ha k,hw,List.replicate_append_replicate]
  congr 1
theorem bytes_run {mp:List Ext.Ex} (hX:DevAt w X) (hp:X.p=dvOf n L) (hok:okD (dvOf n L)=true) (hl:LgOk n m L) (hM:MapOk X L mp) {A:Option Addr} {q c:Nat} (hA:RowL w A q c mp) {a:Int} (ha:0≤a) (ha2:a≤2000000000) {k:Nat} (hk:1≤k) (hk2:k≤4000):
  Calls Tryz.prog 13 #[.agg #[.int .i64 X.cap,.int .i64 X.op,.int .i64 X.ac,.slice X.A X.n X.c],.slice A q c,.int .i64 a,.int .i64 (k:Int)] w fun e w'=>∃(B:Option Addr) (d:Nat),e= .returned (.tuple #[.slice B (16*k) d,.int .i64 0])∧Hid (Row cb w' B (16*k) d (blocksW L a k))∧Below w.heap.size w w':=by
 have hr:rangeB a (k:Int)=true:=rangeB_iff.2 ⟨ha,by omega,by omega⟩
 have hcap:∀v∈X.xs,v.z.data.length≤65536:=by
  intro v hv
  have h0:=bounds_parts.1 ((okD_dx hX).1 (by rw[hp];exact hok)).1
  have h1:=Zon.ok_parts (((okD_dx hX).1 (by rw[hp];exact hok)).2.1 v hv)
  have h2:v.z.len=(v.z.data.length:Int):=rfl
  omega
 have hq:q≤100000:=by have h1:=hA.len;have h2:=hM.few;omega
 have hf:=Ext.look_full hM.ok hr
 have e:(lookP mp a (k:Int)).flatMap (extB (datX X))=blocksW L a k:=by
  rw[Ext.full_blocks (datX X) _ _ _ hf]
  unfold blocksW
  rw[show(a+(k:Int)-a).toNat=k by omega]
  refine Ext.fm_congr fun i hi=> ?_
  have hik:=List.mem_range.1 hi
  rw[Ext.look_tell hM.ok hr (by omega) (by omega)]
  exact(hM.told _ (by omega)).1
 have:=bytes_in hX hcap hA hM.ok hq hr (by omega) (inx_look hM.ok hr hM.inb)
 rw[e] at this
 refine this.mono ?_
 rintro e w' ⟨B,j,d,rfl,hO,hb⟩
 have hlen:=blocksW_len hl a k
 obtain⟨hrow,hj⟩:=Wire.gave_row hO (by rw[hlen];omega)
 have hj2:j=16*k:=by rw[hj,hlen]
 subst hj2
 exact⟨B,d,rfl,hrow,hb⟩
end
end Rp
end
section
open Go.RowKit Go.Maps Go.Sort Go.Shelf Mem Box
attribute [local go_sem] Oper.semAt_some
namespace Rp
structure VSrc (w:World) (Bm:Nat) (A:Option Addr) (c:Nat) (l:List Int):Prop where
 row:Row ci w A l.length c l
 box:Cells w Bm 34 #[.slice A l.length c]
theorem vals_made (A:Option Addr) (n c:Nat) (w:World):Calls Tryz.prog 35 #[.slice A n c] w fun e w'=>e= .returned (.func (.func 65) #[] #[.pointer (some ⟨w.heap.size,0,none⟩)])∧w'=w.alloc (.cells #[.slice A n c] 34):=by
 have hmf:∀(fn:Fn) (first cap:Array Value) (w:World),(Instr.makeFunc fn first cap).run Tryz.prog w= .ok (.func fn first cap) w:=fun _ _ _ _=>rfl
 go_enter Tryz.func35,Tryz.ntmps35
 go_wp2_with fail
 go_ret
 exact⟨rfl,rfl⟩
theorem vals_in (n:Nat) (hn:1≤n) (lp:Nat) {w:World} {Bm:Nat} {A:Option Addr} {c:Nat} {l:List Int} (h:VSrc w Bm A c l) (J Jx:List Int→World→Prop)
  (hY:∀pre x W,J pre W→pre.length<l.length→YieldAt Fence.wide (n-1) Tryz.prog lp #[.int .i64 x] W fun e W'=>
   (e= .returned (.bool true)∧J (pre++ [x]) W'∧Below w.heap.size W W')∨(e= .returned (.bool false)∧Jx (pre++ [x]) W'))
  (W:World) (hW:Below w.heap.size w W) (h0:J [] W):
  CallsIn Fence.wide n Tryz.prog 65 #[.func (.yield lp) #[] #[],.pointer (some ⟨Bm,0,none⟩)] W fun e W'=>(∃v,e= .returned v)∧((∃ys,ys=l∧J ys W')∨(∃pre,True∧Jx pre W')):=by
 refine callsIn_of_wp Tryz.func65 rfl trivial ?_ rfl
 simp only[Tryz.ntmps65,List.size_toArray,List.length_cons,List.length_nil,Nat.reduceAdd,Nat.reduceSub,Array.replicate_succ,Array.replicate_zero,List.push_toArray,List.append_toArray,List.nil_append,List.cons_append]
 have HS:=Lib.hid h
 have HW:=Lib.hid hW
 have m0:=Cells.cell (Cells.below h.box hW) 0
 have hbig:=h.row.big
 clear h
 gi_wp2
 clear m0
 gi_loopw [4,7] (fun _ i wr=>∃k:Nat,i= .int .i64 k∧k≤l.length∧Hid (Below w.heap.size w wr∧J (l.take k) wr)) (fun _ i _=>l.length-(intOf i).toNat)
 case atStart=>exact⟨0,rfl,by omega,HW.out,by simpa using h0⟩
 case round=>
  obtain⟨k,rfl,hk,hH⟩:=hrel
  by_cases hlt:k<l.length
  ·have hk0:(0:Int)≤(k:Int):=by omega
   have hk1:(k:Int)<(l.length:Int):=by omega
   obtain⟨x,hx⟩:∃x,l[k]? =some x:=⟨_,List.getElem?_eq_getElem hlt⟩
   obtain⟨b,o,rfl,hb⟩:=(HS.out.row.below hH.out.1).cell hx
   have cx:wr.cell? ⟨b,o+k,none⟩=some (.int .i64 x):=hb
   have HX:=Lib.hid hx
   obtain⟨fn,tmps,assign,body,hy,hR⟩:=hY (l.take k) x wr hH.out.2 (by rw[List.length_take];omega)
   clear hx hb
   gi_wp2
   refine hR.mono ?_
   rintro e W3 (⟨rfl,hJ3,hk3⟩|⟨rfl,hJx3⟩)
   ·gi_wp2
    go_roundw
    case rel=>exact⟨k+1,by go_num,by omega,hH.out.1.trans hk3,by rw[List.take_add_one,HX.out];exact hJ3⟩
    case measure=>simp[intOf];omega
   ·gi_wp2
    refine bodyPost_ret (results_none rfl _ _ _) rfl ?_
    exact⟨⟨_,rfl⟩,.inr ⟨_,trivial,hJx3⟩⟩
  ·have hk1:¬(k:Int)<(l.length:Int):=by omega
   gi_wp2
   go_end0
   have hJl:=hH.out.2
   rw[List.take_of_length_le (by omega)] at hJl
   first|exact⟨⟨_,rfl⟩,.inl hJl⟩|exact⟨⟨_,rfl⟩,.inl ⟨_,rfl,hJl⟩⟩
theorem vals_stops (n:Nat) (hn:1≤n) {w w1:World} {Bm:Nat} {A:Option Addr} {c:Nat} {l:List Int} (h:VSrc w Bm A c l) (hb:Below w.heap.size w w1):
  SeqStopsK Fence.wide n Tryz.prog 65 #[.pointer (some ⟨Bm,0,none⟩)] (fun x:Int=> #[Value.int .i64 x]) (Below w.heap.size) (fun ys=>ys=l) (fun _=>True) l.length w1:=
 fun lp J Jx W hW _ _ hY h0=>vals_in n hn lp h J Jx hY W (hb.trans (hW.mono hb.size)) h0
structure Acc (w W:World) (A:Option Addr) (c:Nat) (l:List Int):Prop where
 box:Cells W w.heap.size 34 #[.slice A l.length c]
 row:Mem.Owns ci 3 (w.heap.size+1) W (.slice A l.length c) l.length l
 below:Below w.heap.size w W
theorem Acc.below' {w W W':World} {A:Option Addr} {c:Nat} {l:List Int} (h:Acc w W A c l) (hb:Below W.heap.size W W'):Acc w W' A c l:=⟨Cells.below h.box hb,h.row.below hb,h.below.trans (hb.mono h.below.size)⟩
theorem acc_own (w:World) {B:Nat} (hB:w.heap.size≤B):OwnFrom B (fun(pre:List Int) W=>∃A c,Acc w W A c pre):=fun pre W W' row hs hg hr=>by
 obtain⟨A,c,h⟩:=hs
 have hr':=fun r e=>(hr r e).2
 exact⟨A,c,cells_kept h.box hg hr',kept_row h.row hg hr',h.below.grown hg h.below.size (fun q e=>Nat.le_trans hB (hr q e).1)⟩
theorem Acc.push {w W W3:World} {l:List Int} {x:Int} {A A':Option Addr} {c c':Nat} (h:Acc w W A c l) (hown:Mem.Owns ci 3 (w.heap.size+1) W3 (.slice A' (l.length+1) c') (l.length+1) (l++ [x]))
  (hg:(W.alloc (.cells #[.int .i64 x] 3)).grownBy W3 (Value.slice A l.length c).ownBlock):
  Acc w (W3.setCell ⟨w.heap.size,0,none⟩ (.slice A' (l.length+1) c')) A' c' (l++ [x])∧Below w.heap.size W (W3.setCell ⟨w.heap.size,0,none⟩ (.slice A' (l.length+1) c'))∧KeepsOthers W (W3.setCell ⟨w.heap.size,0,none⟩ (.slice A' (l.length+1) c'))∧Cells W3 w.heap.size 34 #[.slice A l.length c]:=by
 have h1:=h.below' ((Below.refl _ W).alloc (Nat.le_refl _) (.cells #[.int .i64 x] 3))
 have hlt:=fun q (hq:(Value.slice A l.length c).ownBlock=some q)=>(OwnB.owns_lt h1.row q hq).1
 have b3:Cells W3 w.heap.size 34 #[.slice A l.length c]:=(hg.block _ (Cells.lt h1.box) (fun e=>by have:=hlt _ e.symm;omega)).trans h1.box
 have hs:Chg 34 (some w.heap.size) W3 (W3.setCell ⟨w.heap.size,0,none⟩ (.slice A' (l.length+1) c')):=Chg.set1 b3 0 _
 have k1:Below w.heap.size W (W.alloc (.cells #[.int .i64 x] 3)):=(Below.refl _ W).alloc h.below.size _
 have k3:Below w.heap.size W W3:=k1.grown hg (Nat.le_trans h.below.size k1.size) (fun q e=>by have:=hlt q e;omega)
 have k4:Below w.heap.size W (W3.setCell ⟨w.heap.size,0,none⟩ (.slice A' (l.length+1) c')):=k3.setCell (p:=⟨w.heap.size,0,none⟩) (Nat.le_refl _) _
 refine⟨⟨?_,?_,h.below.trans k4⟩,k4,?_,b3⟩
 ·rw[List.length_append];simpa using Cells.set_ b3 0 (.slice A' (l.length+1) c')
 ·rw[List.length_append];exact hs.ownI hown (by decide)
 ·have hch:KeepsOthers (W.alloc (.cells #[.int .i64 x] 3)) W3:=⟨hg.size,fun k o hk hc=>(hg.block k (Array.getElem?_eq_some_iff.1 hk).1 (fun e=>by
    rcases h1.row.2 with⟨e1,-⟩|⟨g,cap,cur,e1,-,hgc,-⟩
    ·rw[e1] at e;cases e
    ·rw[e1] at e
     injection e with e
     subst e
     rw[hgc] at hk
     injection hk with hk
     subst hk
     cases hc)).trans hk⟩
  exact((KeepsOthers.alloc _ _).trans hch).trans (KeepsOthers.setCell _ _ _)
theorem append_vals {w:World} {Bm:Nat} {A:Option Addr} {c:Nat} {l:List Int} (h:VSrc w Bm A c l) (hbig:l.length≤1000000):
  CallsIn Fence.wide 6 Tryz.prog 98 #[.slice none 0 0,.func (.func 65) #[] #[.pointer (some ⟨Bm,0,none⟩)]] w fun e w'=>∃B d,e= .returned (.slice B l.length d)∧OwnI w.heap.size w' B l.length d l∧Below w.heap.size w w':=by
 have G1:Hid (Acc w (w.alloc (.cells #[.slice none 0 0] 34)) none 0 []):=⟨Cells.new _ _ _,Mem.Owns.nil _ _ _ _,(Below.refl _ w).alloc (Nat.le_refl _) _⟩
 have N1:Hid ((w.alloc (.cells #[.slice none 0 0] 34)).heap.size=w.heap.size+1):=by show _=_;simp
 have HV:=Lib.hid h
 clear h
 refine callsIn_of_wp_marks Tryz.func98 rfl trivial ?_ rfl
 simp only[Tryz.ntmps98,List.size_toArray,List.length_cons,List.length_nil,Nat.reduceAdd,Nat.reduceSub,Array.replicate_succ,Array.replicate_zero,List.push_toArray,List.append_toArray,List.nil_append,List.cons_append]
 gi_wp2
 generalize w.alloc (.cells #[.slice none 0 0] 34)=w1 at*
 obtain⟨i0,hi,hz0,hz1,hz2⟩:=info_parts info_int
 refine wpIn_rangeFunc_ownF rfl (by omega) (gf:=65) (lb:= #[.pointer (some ⟨Bm,0,none⟩)]) rfl trivial (enters_of Tryz.func65 (by kernel_rfl) rfl)
  (vals_stops 5 (by omega) HV.out G1.out.below) (fun h k=>h.trans k) (fun W l o o' hl h hc hw=>belowK_b (w:=w1) (by have:=N1.out;omega) W l o o' hl h hc hw) (Below.refl _ _) (fun _=>rfl)
  (fun pre W=>∃A c,Acc w W A c pre)
  (fun _ _ _=>False)
  (acc_own w G1.out.below.size)
  (fun _ _ _ _ _ hs _ _=>hs)
  ⟨none,0,G1.out⟩
  (fun x=> {tmps:= #[.slice none 0 0,.func (.func 65) #[] #[.pointer (some ⟨Bm,0,none⟩)],.pointer (some ⟨w.heap.size,0,none⟩),undef,.slice none 0 0,.int .i64 x,.func (.func 65) #[] #[.pointer (some ⟨Bm,0,none⟩)],.int .i64 x,undef,undef,undef,undef,undef],defers:= []}) ?assign ?body ?done ?stop
 case assign=>
  intro lp x W K hK
  gi_wp2
  exact hK
 case body=>
  rintro lp pre x W ⟨A2,c2,hG⟩ hlt
  have HGA:=Lib.hid hG
  have q0:W.cell? ⟨w.heap.size,0,none⟩=some (.slice A2 pre.length c2):=Cells.cell hG.box 0
  clear hG
  gi_wp2_with (gi_at_builtin
               refine wpListIn_append_own _ rfl (.tmp 8) (.tmp 10) 34 rfl (w.heap.size+1) 3 i0 (.int .i64 0) 1 8 Tryz.underlying34 hi hz0 hz1 hz2 rfl (by decide) _ _ _ rfl (Mem.Owns.alloc HGA.out.row _) ⟨W.heap.size,0,none⟩ 1 1 [.int .i64 x] rfl rfl (cell_one_new _ _ _) (by simp[Value.oneCell']) (by unfold maxLen;omega) (by omega) (by have:=Cells.lt HGA.out.box;simp;omega) ?_
               intro v' w3 hown hgrow _
               have hown':Mem.Owns ci 3 (w.heap.size+1) w3 v' (pre.length+1) (pre++ [x]):=by
                show World.ownsRow _ _ _ _ _ _ _
                rw[List.map_append]
                exact hown
               obtain⟨A',c',rfl⟩:=hown'.slice
               have P3:=Lib.hid (HGA.out.push hown' hgrow)
               have q1:w3.frozen? ⟨w.heap.size,0,none⟩=false:=Cells.frozen P3.out.2.2.2 0
               have q3:w3.cell? ⟨w.heap.size,0,none⟩=some (.slice A2 pre.length c2):=Cells.cell P3.out.2.2.2 0
               clear hown hown' hgrow q0)
  exact⟨P3.out.2.2.1,P3.out.2.1,_,_,P3.out.1⟩
 case done=>
  rintro D ys W hD rfl ⟨A2,c2,hG⟩ hK
  have q4:W.cell? ⟨w.heap.size,0,none⟩=some (.slice A2 ys.length c2):=Cells.cell hG.box 0
  have HGA:=Lib.hid hG
  have HKD:=Lib.hid hK
  have HDD:=Lib.hid hD
  clear hG hK hD
  gi_wp2
  have hput:=grownBy_putObj' W D (.deferred none)
  refine⟨by simp,.inl ⟨_,_,rfl,run_takeDeferred HKD.out,?_⟩⟩
  refine⟨_,results_tmp rfl _ _ _,A2,c2,rfl,?_,?_⟩
  ·exact Mem.Owns.mono (kept_row HGA.out.row hput (fun r e=>by injection e with e;subst e;exact⟨_,HKD.out,rfl⟩)) (by omega)
  ·exact HGA.out.below.grown hput HGA.out.below.size (fun q e=>by injection e with e;subst e;have:=HDD.out;have:=N1.out;omega)
 case stop=>
  rintro D c pre W _ _ h _
  exact h.elim
theorem collect_vals {w:World} {Bm:Nat} {A:Option Addr} {c:Nat} {l:List Int} (h:VSrc w Bm A c l) (hbig:l.length≤1000000):
  Calls Tryz.prog 63 #[.func (.func 65) #[] #[.pointer (some ⟨Bm,0,none⟩)]] w fun e w'=>∃B d,e= .returned (.slice B l.length d)∧OwnI w.heap.size w' B l.length d l∧Below w.heap.size w w':=by
 have HA:=Lib.hid ((callsIn_wide (n:=6)).1 (append_vals h hbig))
 clear h
 go_enter Tryz.func63,Tryz.ntmps63
 go_wp2_with (go_at_call 98;refine HA.out.mono ?_;rintro e w2 ⟨B,d,rfl,hO,hb⟩;have O2:=Lib.hid hO;have L2:=Lib.hid hb;clear hO hb)
 go_ret
 exact⟨B,d,rfl,O2.out,L2.out⟩
theorem sort_call {base:Nat} {W:World} {A:Option Addr} {c:Nat} {l:List Int} (h:OwnI base W A l.length c l) (hs:l.Pairwise (· ≤ ·)) (hbig:l.length≤1000000):
  Calls Tryz.prog 64 #[.slice A l.length c] W fun e w'=>e= .returned (.tuple #[])∧OwnI base w' A l.length c l∧Below base W w':=by
 rcases h.2 with⟨e1,h0⟩|⟨g,cap,cur,e1,hbase,hg,r1,r2,r3,r4⟩
 ·injection e1 with e1 e2 e3
  subst e1
  rw[h0]
  refine(AnyM.slices_Sort_int_none Vm.laysSortI none c W).mono ?_
  rintro e w' ⟨rfl,rfl⟩
  refine⟨rfl,?_,Below.refl _ _⟩
  rw[h0] at h;exact h
 ·injection e1 with e1 e2 e3
  subst e1 e3
  have hgl:g<W.heap.size:=(Array.getElem?_eq_some_iff.1 hg).1
  refine(AnyM.slices_Sort_int Vm.laysSortI g 0 c l W (holds_of_block_i hg (show cur.toList.take l.length=l.map encZ from by rw[Nat.mul_one] at r4;exact r4)) hgl (by omega)).mono ?_
  rintro e w' ⟨rfl,n,os,rfl⟩
  have hm:(l.mergeSort fun x y=>decide (x≤y))=l:=List.mergeSort_of_pairwise (hs.imp fun h=>by simpa using h)
  rw[hm]
  refine⟨rfl,?_,(Below.refl base W).grown (grownBy_sorted_i _) (Nat.le_trans hbase (Nat.le_of_lt hgl)) (fun j hj=>by cases hj;exact hbase)⟩
  exact ownsRow_sorted_i rfl hbase hg r1 r2 r3
theorem sorted_vals {w:World} {Bm:Nat} {A:Option Addr} {c:Nat} {l:List Int} (h:VSrc w Bm A c l) (hs:l.Pairwise (· ≤ ·)) (hbig:l.length≤1000000):
  Calls Tryz.prog 34 #[.func (.func 65) #[] #[.pointer (some ⟨Bm,0,none⟩)]] w fun e w'=>∃B d,e= .returned (.slice B l.length d)∧OwnI w.heap.size w' B l.length d l∧Below w.heap.size w w':=by
 have HA:=Lib.hid (collect_vals h hbig)
 have HSO:=fun base W A c h=>Lib.hid (@sort_call base W A c l h hs hbig)
 clear h hs
 go_enter Tryz.func34,Tryz.ntmps34
 go_upto_region 2 with(go_at_call 63;refine HA.out.mono ?_;rintro e w2 ⟨B,d,rfl,hO,hb⟩;have O2:=Lib.hid hO;have L2:=Lib.hid hb;clear hO hb)
 have HS2:=HSO _ _ _ _ O2.out
 clear HSO
 go_wp2_with (go_at_call 64;refine HS2.out.mono ?_;rintro e w3 ⟨rfl,hO,hb⟩;have O3:=Lib.hid hO;have L3:=Lib.hid (L2.out.trans hb);clear hO hb)
 go_ret
 exact⟨B,d,rfl,O3.out,L3.out⟩
theorem compact_rises {w:World} {A:Option Addr} {c:Nat} {l:List Int} (h:Row ci w A l.length c l) (hs:l.Pairwise (· < ·)):
  Calls Tryz.prog 33 #[.slice A l.length c] w fun e w'=>e= .returned (.slice A l.length c)∧Below w.heap.size w w':=by
 have HR:=Lib.hid h
 have HS:=Lib.hid hs
 have hbig:=h.big
 clear h hs
 go_enter Tryz.func33,Tryz.ntmps33
 by_cases h2:(l.length:Int)<2
 ·go_wp2_with fail
  go_ret
  exact⟨rfl,Below.refl _ _⟩
 ·go_wp2_with fail
  go_loopw [3] (fun i wr=>∃j:Nat,i= .int .i64 (((j+1:Nat)):Int)∧j+1≤l.length∧Hid (Below w.heap.size w wr)) (fun i _=>l.length-(intOf i).toNat)
  case atStart=>exact⟨0,rfl,by omega,Below.refl _ _⟩
  case round=>
   obtain⟨j,hi,hj,hI⟩:=hrel
   obtain⟨m,hm⟩:∃m,j+1=m:=⟨_,rfl⟩
   rw[hm] at hi hj
   subst hi
   have hm1:(m:Int)-1=(j:Int):=by omega
   by_cases hlt:m<l.length
   ·have hk1:(m:Int)<(l.length:Int):=by omega
    have hk0:(0:Int)≤(m:Int):=by omega
    have hj0:(0:Int)≤(j:Int):=by omega
    have hj1:(j:Int)<(l.length:Int):=by omega
    obtain⟨x,hx⟩:∃x,l[m]? =some x:=⟨_,List.getElem?_eq_getElem hlt⟩
    obtain⟨y,hy⟩:∃y,l[j]? =some y:=⟨_,List.getElem?_eq_getElem (by omega)⟩
    obtain⟨b,o,rfl,hb⟩:=(HR.out.below hI.out).cell hx
    obtain⟨b',o',e',hb'⟩:=(HR.out.below hI.out).cell hy
    injection e' with e'
    injection e' with e1 e2
    subst e1 e2
    have cx:wr.cell? ⟨b,o+m,none⟩=some (.int .i64 x):=hb
    have cy:wr.cell? ⟨b,o+j,none⟩=some (.int .i64 y):=hb'
    have hxy:(x==y)=false:=by
     obtain⟨p1,q1⟩:=List.getElem?_eq_some_iff.1 hx
     obtain⟨p2,q2⟩:=List.getElem?_eq_some_iff.1 hy
     have:=List.pairwise_iff_getElem.1 HS.out j m p2 p1 (by omega)
     exact beq_eq_false_iff_ne.2 (by omega)
    have HM:=Lib.hid hm
    have HJ:=Lib.hid hj
    clear hx hy hb hb' hm
    go_upto_region 6 with fail
    go_big_quiet (fail)
    have L2:Hid (Below w.heap.size w (wr.drewN nq)):=below_drewN hI.out _
    go_wp2_with fail
    go_roundw
    case rel=>exact⟨m,by go_num,by omega,L2.out⟩
    case measure=>simp[intOf];omega
   ·have hk1:¬(m:Int)<(l.length:Int):=by omega
    go_wp2_with fail
    go_ret
    exact⟨rfl,hI.out⟩
def NoneOf (g:Nat) (lb:Array Value) (l:List Int) (w:World):Prop:=
 ∀(W:World) (x:Int),x∈l→Below w.heap.size w W→Calls Tryz.prog g (#[.int .i64 x]++lb) W fun e w'=>e= .returned (.bool false)∧Below W.heap.size W w'
theorem index_noneOf {A:Option Addr} {c:Nat} {l:List Int} {w:World} (h:Row ci w A l.length c l) (g:Nat) (lb:Array Value) (eg:∀args w,(callFunc g args).run Tryz.prog w= .ok (.enter g args) w) (hp:NoneOf g lb l w):
  Calls Tryz.prog 58 #[.slice A l.length c,.func (.func g) #[] lb] w fun e w'=>e= .returned (.int .i64 (-1))∧Below w.heap.size w w':=by
 have HR:=Lib.hid h
 have hbig:=h.big
 have HP:=Lib.hid hp
 clear h hp
 go_enter Tryz.func58,Tryz.ntmps58
 go_wp2
 go_loopw [5,8] (fun _ i wr=>∃k:Nat,i= .int .i64 k∧k≤l.length∧Hid (Below w.heap.size w wr)) (fun _ i _=>l.length-(intOf i).toNat)
 case atStart=>exact⟨0,rfl,by omega,Below.refl _ _⟩
 case round=>
  obtain⟨k,rfl,hk,hH⟩:=hrel
  by_cases hlt:k<l.length
  ·obtain⟨x,hx⟩:∃x,l[k]? =some x:=⟨_,List.getElem?_eq_getElem hlt⟩
   obtain⟨b,o,rfl,hb⟩:=(HR.out.below hH.out).cell hx
   have cx:wr.cell? ⟨b,o+k,none⟩=some (.int .i64 x):=hb
   have hk0:(0:Int)≤(k:Int):=by omega
   have hkn:(k:Int)<(l.length:Int):=by omega
   have HC:=fun W (hW:Below w.heap.size w W)=>HP.out W x (List.mem_of_getElem? hx) hW
   clear hx hb
   go_wp2_with (go_at_fn g;refine(HC _ hH.out).mono ?_;rintro e w2 ⟨rfl,hb⟩;have L2:=Lib.hid (hH.out.trans (hb.mono hH.out.size));clear hb)
   go_roundw
   case rel=>exact⟨k+1,by go_num,by omega,L2.out⟩
   case measure=>simp[intOf];omega
  ·have hkn:¬(k:Int)<(l.length:Int):=by omega
   go_wp2_with fail
   go_ret
   exact⟨rfl,hH.out⟩
theorem contains_noneOf {A:Option Addr} {c:Nat} {l:List Int} {w:World} (h:Row ci w A l.length c l) (g:Nat) (lb:Array Value) (eg:∀args w,(callFunc g args).run Tryz.prog w= .ok (.enter g args) w) (hp:NoneOf g lb l w):
  Calls Tryz.prog 29 #[.slice A l.length c,.func (.func g) #[] lb] w fun e w'=>e= .returned (.bool false)∧Below w.heap.size w w':=by
 have HI:=Lib.hid (index_noneOf h g lb eg hp)
 clear h hp eg
 go_enter Tryz.func29,Tryz.ntmps29
 go_wp2_with fail
 refine HI.out.mono ?_
 rintro e w2 ⟨rfl,hb⟩
 have HB:=Lib.hid hb
 clear hb
 go_wp2_with fail
 go_ret
 exact⟨rfl,HB.out⟩
theorem map_closure {X:Zns.Dx} {zs:List Int} {dg:Nat} {w:World} (h:Cells w dg 26 #[.int .i64 X.cap,.int .i64 X.op,.int .i64 X.ac,.slice X.A X.n X.c]) (hz:∀z∈zs,0≤z∧z<(X.n:Int)):NoneOf 27 #[.pointer (some ⟨dg,0,none⟩)] zs w:=by
 intro W x hx hW
 obtain⟨h0,h1⟩:=hz x hx
 have m3:=Cells.cell (Cells.below h hW) 3
 have k0:decide (x<0)=false:=decide_eq_false (by omega)
 have k1:decide ((X.n:Int)≤x)=false:=decide_eq_false (by omega)
 go_enter Tryz.func27,Tryz.ntmps27
 go_wp2_with fail
 go_ret
 exact⟨rfl,Below.refl _ _⟩
end Rp
end
end Go.Proofs.YtmkagjnkpjpjcaaGreat
