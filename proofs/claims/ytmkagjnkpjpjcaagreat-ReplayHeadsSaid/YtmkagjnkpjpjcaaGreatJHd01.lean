/-
  SEVERAL TEXTS IN ONE FILE: PRun, PRunOpen, PRunHeads, PRepHeadsRow.
-/
import Derived.Test.YtmkagjnkpjpjcaaGreatJ19
import Derived.Test.YtmkagjnkpjpjcaaGreatJ02
import Derived.BigQuiet
namespace Go.Proofs.YtmkagjnkpjpjcaaGreat
set_option maxRecDepth 100000
set_option linter.unusedSimpArgs false
set_option linter.unusedVariables false
set_option maxHeartbeats 25600000
section
open Go.RowKit Mem Box Zns
namespace Rp
open Seg (Hdr Rc Rv cellsOf RowR hdV fits nums hnums nn frame headX recX frames check)
open Pk (Pp Px pxv PackAt OwnP zoneOf placeR flen places addP moreP behindP fitsP errB OkP beginP Apd Fre Did2 eight_cells)
open Zon (Zn Zv B8 nilZ cellsZ)
open GM (FMap getB setB Ky)
structure Ran (w w':World) (n k:Nat) (X:Dx) (L:Lg) (mb:Nat) (ws:List (Int × List B8)):Prop where
 dev:DevAt w' X
 px:X.p=dvOf n L
 ok:okD (dvOf n L)=true
 lg:LgOk n k L
 mw:MWt w' mb ws
 wt:∀j,getB ws j=wantL L j
 bel:Below w.heap.size w w'
 new:w.heap.size≤mb
def zeroPx:Px:=⟨Pk.zeroP,none,0,none,0,[]⟩
theorem look_pack {w:World} {r z:Nat} {rs:List Rc} {ks:List (Int × Px)} (h:MPk w r ks) (hk:PkOk ks z rs):∃(y:Px) (b:Bool),(Instr.lookup 76 (.map (some r)) (.int .i64 (z:Int)) true).run Tryz.prog w= .ok (.tuple #[.agg #[.int .i64 y.p.h.host,.int .i64 y.p.h.epoch,.int .i64 y.p.h.seq,.int .i64 y.p.zone,.int .i64 y.p.cap,.int .i64 y.p.at_,.slice y.B y.p.buf.length y.bc,.slice y.L y.p.l.length y.lc],.bool b]) w∧Hid ((b=false∧rs= [])∨(b=true∧y.p=packZ z rs∧∀W,PackAt W y)):=by
 rcases hk with⟨h1,h2⟩|⟨h1,y,h2,h3,h4⟩
 ·exact⟨zeroPx,false,getPk_none h h2,.inl ⟨rfl,h1⟩⟩
 ·exact⟨y,true,getPk_some h h2,.inr ⟨rfl,h3,h4⟩⟩
theorem upB {b:Nat} {w w1 w2:World} (h:Below b w w1) (hb:b≤w.heap.size) (h2:Below w1.heap.size w1 w2):Below b w w2:=h.trans (h2.mono (Nat.le_trans hb h.size))
theorem run_any {A:Option Addr} {m c:Nat} {ls:List Wr} {w:World} (h:RowS cellsW 5 w A m c ls) (hm:m≤40) {n:Nat} (hn1:1≤n) (hn4:n≤4):
  Calls Tryz.prog 9 #[.slice A m c,.int .i64 (n:Int)] w fun e w'=>∃(X:Dx) (L:Lg) (mb:Nat) (ws:List (Int × List B8)),e= .returned (.tuple #[.agg #[.int .i64 X.cap,.int .i64 X.op,.int .i64 X.ac,.slice X.A X.n X.c],.map (some mb),.bool true])∧Hid (Ran w w' n m X L mb ws):=by
 have HR:=Lib.hid h
 have hmm:= @run_makeMap Tryz.prog
 have HN:=fun w=>Lib.hid (newN hn1 hn4 w)
 have L1:=Lib.hid ((Below.refl w.heap.size w).alloc (Nat.le_refl _) (.cells #[.int .i64 0,.int .i64 0,.int .i64 0,.slice none 0 0] 26))
 have C1:Hid (Cells (w.alloc (.cells #[.int .i64 0,.int .i64 0,.int .i64 0,.slice none 0 0] 26)) w.heap.size 26 #[.int .i64 0,.int .i64 0,.int .i64 0,.slice none 0 0]):=Cells.new _ _ _
 clear h
 go_enter Tryz.func9,Tryz.ntmps9
 go_upto_region 1 with fail
 have G1:Hid (w.heap.size<(w.alloc (.cells #[.int .i64 0,.int .i64 0,.int .i64 0,.slice none 0 0] 26)).heap.size):=by show _<_;simp
 generalize w.alloc (.cells #[.int .i64 0,.int .i64 0,.int .i64 0,.slice none 0 0] 26)=w1 at*
 go_upto_region 2 with(go_at_call 22;refine(HN w1).out.mono ?_;rintro e w2 ⟨X,rfl,hX,hb⟩;have L2:=Lib.hid (L1.out.trans (hb.mono L1.out.size));have C2:=Lib.hid (Cells.below C1.out hb);have G2:Hid (w.heap.size<w2.heap.size):=Nat.lt_of_lt_of_le G1.out hb.size;clear hb)
 have A3:Below w2.heap.size w2 (w2.alloc (.cells #[.int .i64 X.cap,.int .i64 X.op,.int .i64 X.ac,.slice X.A X.n X.c] 26)):=(Below.refl _ w2).alloc (Nat.le_refl _) _
 have A4:Below w2.heap.size w2 (((w2.alloc (.cells #[.int .i64 X.cap,.int .i64 X.op,.int .i64 X.ac,.slice X.A X.n X.c] 26)).alloc (.map #[] 0)).alloc (.map #[] 0)):=(A3.alloc A3.size _).alloc (by have:=A3.size;simp at this ⊢;omega) _
 have S4:Hid (St w (((w2.alloc (.cells #[.int .i64 X.cap,.int .i64 X.op,.int .i64 X.ac,.slice X.A X.n X.c] 26)).alloc (.map #[] 0)).alloc (.map #[] 0)) n 0 w.heap.size w2.heap.size (w2.heap.size+1) (w2.heap.size+2) X [] [] []):=by
  have g2:=G2.out
  have c7:Cells (w2.alloc (.cells #[.int .i64 X.cap,.int .i64 X.op,.int .i64 X.ac,.slice X.A X.n X.c] 26)) w2.heap.size 26 #[.int .i64 X.cap,.int .i64 X.op,.int .i64 X.ac,.slice X.A X.n X.c]:=Cells.new _ _ _
  have hs:(w2.alloc (.cells #[.int .i64 X.cap,.int .i64 X.op,.int .i64 X.ac,.slice X.A X.n X.c] 26)).heap.size=w2.heap.size+1:=by simp
  have hap:∀g,w2.heap.size≤g→Apd X (some g):=fun g hg=>apd_late hX.out.1 hg
  have hmp:=FMap.made (Value.int .i64) (fun _:Int=>True) pxv (w2.alloc (.cells #[.int .i64 X.cap,.int .i64 X.op,.int .i64 X.ac,.slice X.A X.n X.c] 26))
  have hmw:=FMap.made (Value.int .i64) (fun _:Int=>True) (fun l:List B8=>Value.string (str l)) ((w2.alloc (.cells #[.int .i64 X.cap,.int .i64 X.op,.int .i64 X.ac,.slice X.A X.n X.c] 26)).alloc (.map #[] 0))
  rw[World.size_alloc,hs] at hmw
  rw[hs] at hmp
  refine⟨L2.out.trans (A4.mono L2.out.size),C2.out.below A4,(c7.alloc _).alloc _,hX.out.1.below A4,hX.out.2.1,dv_ok0 hn1 hn4,LgOk.nil,fun g hg=> ?_,hmp.below ((Below.refl _ _).alloc (Nat.le_refl _) _),fun z hz=> .inl ⟨rfl,rfl⟩,hmw,fun j=>rfl,Nat.le_refl _,g2,by omega,by omega,by simp⟩
  simp only[List.mem_cons,List.not_mem_nil,or_false] at hg
  rcases hg with rfl|rfl|rfl|rfl
  ·exact hX.out.2.2.box G1.out
  ·exact hap _ (Nat.le_refl _)
  ·exact hap _ (by omega)
  ·exact hap _ (by omega)
 go_upto_region 6 with fail
 have E3:(w2.alloc (.cells #[.int .i64 X.cap,.int .i64 X.op,.int .i64 X.ac,.slice X.A X.n X.c] 26)).heap.size=w2.heap.size+1:=by simp
 try simp only[World.size_alloc]
 generalize((w2.alloc (.cells #[.int .i64 X.cap,.int .i64 X.op,.int .i64 X.ac,.slice X.A X.n X.c] 26)).alloc (.map #[] 0)).alloc (.map #[] 0)=w4 at*
 obtain⟨pm,hpm⟩:∃r,r=w2.heap.size+1:=⟨_,rfl⟩
 obtain⟨wm,hwm⟩:∃r,r=w2.heap.size+2:=⟨_,rfl⟩
 have S5:=S4.out
 rw[←hpm,←hwm] at S5
 have S4:=Lib.hid S5
 try rw[show w2.heap.size+1+1=w2.heap.size+2 from rfl]
 try rw[←hpm]
 try rw[←hwm]
 clear A3 A4 E3 S5 hpm hwm HN L1 C1 G1 L2 C2 G2 hX hmm
 generalize w2.heap.size=g7 at*
 generalize w.heap.size=g4 at*
 have HMM:=Lib.hid hm
 go_wp2_with fail
 go_loopw [11,12,13,14,15,16,17,18,19,20,21,22,23,24,25,26,27,28,43] (fun _ _ _ _ _ _ _ _ _ _ _ _ _ _ _ _ _ _ i wr=>∃(k:Nat) (X:Dx) (L:Lg) (ks:List (Int × Px)) (ws:List (Int × List B8)),i= .int .i64 k∧k≤m∧Hid (St w wr n k g4 g7 pm wm X L ks ws)) (fun _ _ _ _ _ _ _ _ _ _ _ _ _ _ _ _ _ _ i _=>m-(intOf i).toNat)
 case atStart=>exact⟨0,X,[],[],[],rfl,by omega,S4⟩
 case round=>
  clear S4
  obtain⟨k,X,L,ks,ws,rfl,hk,hS⟩:=hrel
  by_cases hlt:k<m
  ·obtain⟨x,hx⟩:∃x,ls[k]? =some x:=⟨_,List.getElem?_eq_getElem (by have:=HR.out.len;omega)⟩
   obtain⟨b,o,hA,hb,hc⟩:=HR.out.elem hx
   subst hA
   obtain⟨bn,hbn⟩:∃z:Int,cb x.by_= .int .u8 z:=⟨_,rfl⟩
   have c0:wr.cell? ⟨b,o+k*5,none⟩=some (.int .i64 x.zone):=hc wr (hS.out.lw.block b hb) 0 _ rfl
   have c1:wr.cell? ⟨b,o+k*5+1,none⟩=some (.int .i64 x.lba):=hc wr (hS.out.lw.block b hb) 1 _ rfl
   have c2:wr.cell? ⟨b,o+k*5+2,none⟩=some (.int .i64 x.n):=hc wr (hS.out.lw.block b hb) 2 _ rfl
   have c3:wr.cell? ⟨b,o+k*5+3,none⟩=some (.int .u8 bn):=(hc wr (hS.out.lw.block b hb) 3 _ rfl).trans (congrArg some hbn)
   have c4:wr.cell? ⟨b,o+k*5+4,none⟩=some (.bool x.trim):=hc wr (hS.out.lw.block b hb) 4 _ rfl
   have hk0:(0:Int)≤(k:Int):=by omega
   have hkm:(k:Int)<(m:Int):=by omega
   have HBN:=Lib.hid hbn
   obtain⟨xz,xl,xn,xb,xt⟩:=x
   dsimp only at c0 c1 c2 c3 c4 HBN
   obtain⟨r1,z,a1,a2,a3,a4,a5,a6⟩:=Cut.cut_at xz n (by omega)
   obtain⟨r2,lb,b1,b2,b3,b4,b5,b6⟩:∃(r:Int) (j:Nat),Int.tmod xl 50=r∧ -50<r∧r<50∧Int.tmod (r+50) 50=j∧(r+50)%50=j∧j<50:=Cut.cut_at xl 50 (by omega)
   obtain⟨r3,q5,d1,d2,d3,d4,d5,d6⟩:∃(r:Int) (j:Nat),Int.tmod xn 5=r∧ -5<r∧r<5∧Int.tmod (r+5) 5=j∧(r+5)%5=j∧j<5:=Cut.cut_at xn 5 (by omega)
   obtain⟨nr,hnr⟩:∃M:Nat,(1:Int)+(q5:Int)=(M:Int):=⟨1+q5,by omega⟩
   have hnr1:1≤nr:=by omega
   have hnr5:nr≤5:=by omega
   have hn0:¬n=0:=by omega
   clear hx hc hb hbn
   go_upto_region 9 with fail
   have A1:Below wr.heap.size wr (wr.alloc (.cells #[.int .i64 xz,.int .i64 xl,.int .i64 xn,.int .u8 bn,.bool xt] 44)):=(Below.refl _ wr).alloc (Nat.le_refl _) _
   have S1:=Lib.hid (hS.out.below A1)
   have B1:Hid (Cells (wr.alloc (.cells #[.int .i64 xz,.int .i64 xl,.int .i64 xn,.int .u8 bn,.bool xt] 44)) wr.heap.size 44 #[.int .i64 xz,.int .i64 xl,.int .i64 xn,.int .u8 bn,.bool xt]):=Cells.new _ _ _
   generalize wr.alloc (.cells #[.int .i64 xz,.int .i64 xl,.int .i64 xn,.int .u8 bn,.bool xt] 44)=w1 at*
   have FX:Hid (wm<wr.heap.size):=hS.out.low.2.2.2.2
   clear A1 hS c0 c1 c2 c3 c4
   generalize wr.heap.size=xg at*
   have x0:w1.cell? ⟨xg,0,none⟩=some (.int .i64 xz):=Cells.cell B1.out 0
   have x1:w1.cell? ⟨xg,1,none⟩=some (.int .i64 xl):=Cells.cell B1.out 1
   have x2:w1.cell? ⟨xg,2,none⟩=some (.int .i64 xn):=Cells.cell B1.out 2
   go_upto_region 12 with fail
   clear x0 x1 x2 a1 a2 a3 a4 a5 b1 b2 b3 b4 b5 d1 d2 d3 d4 d5 hnr d6
   have hz4:z<4:=by omega
   obtain⟨y0,hb,hlook,HY0⟩:=look_pack S1.out.mp (S1.out.pk z a6)
   have F0:Hid (w.heap.size≤w1.heap.size∧wm<w1.heap.size):=⟨S1.out.lw.size,S1.out.low.2.2.2.2⟩
   go_upto_region 13 with fail
   clear hlook
   have K2:Hid (Below w1.heap.size w1 (w1.alloc (.cells #[.int .i64 y0.p.h.host,.int .i64 y0.p.h.epoch,.int .i64 y0.p.h.seq,.int .i64 y0.p.zone,.int .i64 y0.p.cap,.int .i64 y0.p.at_,.slice y0.B y0.p.buf.length y0.bc,.slice y0.L y0.p.l.length y0.lc] 78))):=(Below.refl _ w1).alloc (Nat.le_refl _) _
   have Q2:Hid (Cells (w1.alloc (.cells #[.int .i64 y0.p.h.host,.int .i64 y0.p.h.epoch,.int .i64 y0.p.h.seq,.int .i64 y0.p.zone,.int .i64 y0.p.cap,.int .i64 y0.p.at_,.slice y0.B y0.p.buf.length y0.bc,.slice y0.L y0.p.l.length y0.lc] 78)) w1.heap.size 78 #[.int .i64 y0.p.h.host,.int .i64 y0.p.h.epoch,.int .i64 y0.p.h.seq,.int .i64 y0.p.zone,.int .i64 y0.p.cap,.int .i64 y0.p.at_,.slice y0.B y0.p.buf.length y0.bc,.slice y0.L y0.p.l.length y0.lc]):=Cells.new _ _ _
   generalize w1.alloc (.cells #[.int .i64 y0.p.h.host,.int .i64 y0.p.h.epoch,.int .i64 y0.p.h.seq,.int .i64 y0.p.zone,.int .i64 y0.p.cap,.int .i64 y0.p.at_,.slice y0.B y0.p.buf.length y0.bc,.slice y0.L y0.p.l.length y0.lc] 78)=w2 at*
   obtain⟨pg,hpg⟩:∃p,p=w1.heap.size:=⟨_,rfl⟩
   have HPG:=Lib.hid hpg
   have PGL:Hid (pg≤w1.heap.size):=Nat.le_of_eq hpg
   rw[←hpg] at Q2 K2
   rw[←hpg]
   clear hpg
   go_upto_if 74 with fail
   go_cut [5,6,18,19] from 75 to 85 (fun _ _ _ _ wx=>∃Y:Px,Hid (Below pg w1 wx)∧Hid (Cells wx pg 78 #[.int .i64 Y.p.h.host,.int .i64 Y.p.h.epoch,.int .i64 Y.p.h.seq,.int .i64 Y.p.zone,.int .i64 Y.p.cap,.int .i64 Y.p.at_,.slice Y.B Y.p.buf.length Y.bc,.slice Y.L Y.p.l.length Y.lc])∧Hid (Y.p=packZ z (rsOf L z)∧PackAt wx Y))
   case first=>
    rcases HY0.out with⟨hb0,hrs⟩|⟨hb0,hyp,hyA⟩<;>subst hb0
    ·have HB:=fun w=>Lib.hid (beginZ hz4 w)
     have HRS:=Lib.hid hrs
     clear hrs
     skip
     go_upto_region 15 with(go_at_call 24;refine(HB w2).out.mono ?_;rintro e w3 ⟨Y,rfl,hY,hb⟩;have K3:=Lib.hid (upB K2.out PGL.out hb);have Q3:=Lib.hid (Cells.below Q2.out hb);clear hb)
     have bb:Below w3.heap.size w3 (w3.alloc (.cells #[.int .i64 Y.p.h.host,.int .i64 Y.p.h.epoch,.int .i64 Y.p.h.seq,.int .i64 Y.p.zone,.int .i64 Y.p.cap,.int .i64 Y.p.at_,.slice Y.B Y.p.buf.length Y.bc,.slice Y.L Y.p.l.length Y.lc] 78)):=(Below.refl _ w3).alloc (Nat.le_refl _) _
     have K4:=Lib.hid (upB K3.out PGL.out bb)
     have Q4:=Lib.hid (Cells.below Q3.out bb)
     have O4:=Lib.hid (OwnP.below hY.out.2 bb)
     have R4:Hid (Cells (w3.alloc (.cells #[.int .i64 Y.p.h.host,.int .i64 Y.p.h.epoch,.int .i64 Y.p.h.seq,.int .i64 Y.p.zone,.int .i64 Y.p.cap,.int .i64 Y.p.at_,.slice Y.B Y.p.buf.length Y.bc,.slice Y.L Y.p.l.length Y.lc] 78)) w3.heap.size 78 #[.int .i64 Y.p.h.host,.int .i64 Y.p.h.epoch,.int .i64 Y.p.h.seq,.int .i64 Y.p.zone,.int .i64 Y.p.cap,.int .i64 Y.p.at_,.slice Y.B Y.p.buf.length Y.bc,.slice Y.L Y.p.l.length Y.lc]):=Cells.new _ _ _
     generalize w3.alloc (.cells #[.int .i64 Y.p.h.host,.int .i64 Y.p.h.epoch,.int .i64 Y.p.h.seq,.int .i64 Y.p.zone,.int .i64 Y.p.cap,.int .i64 Y.p.at_,.slice Y.B Y.p.buf.length Y.bc,.slice Y.L Y.p.l.length Y.lc] 78)=w4 at*
     generalize w3.heap.size=q4 at*
     clear K3 Q3 bb
     obtain⟨k0,k1,k2,k3,k4,k5,k6,k7⟩:=eight_cells R4.out
     obtain⟨m0,m1,m2,m3,m4,m5,m6,m7⟩:=eight_cells Q4.out
     have f0:=Cells.frozen Q4.out 0
     have f1:=Cells.frozen Q4.out 1
     have f2:=Cells.frozen Q4.out 2
     have f3:=Cells.frozen Q4.out 3
     have f4:=Cells.frozen Q4.out 4
     have f5:=Cells.frozen Q4.out 5
     have f6:=Cells.frozen Q4.out 6
     have f7:=Cells.frozen Q4.out 7
     go_wp2_with fail
     go_meet
     have bt:=Pk.mov8 w4 pg (.int .i64 Y.p.h.host) (.int .i64 Y.p.h.epoch) (.int .i64 Y.p.h.seq) (.int .i64 Y.p.zone) (.int .i64 Y.p.cap) (.int .i64 Y.p.at_) (.slice Y.B Y.p.buf.length Y.bc) (.slice Y.L Y.p.l.length Y.lc)
     have qs:=Pk.set8 Q4.out (.int .i64 Y.p.h.host) (.int .i64 Y.p.h.epoch) (.int .i64 Y.p.h.seq) (.int .i64 Y.p.zone) (.int .i64 Y.p.cap) (.int .i64 Y.p.at_) (.slice Y.B Y.p.buf.length Y.bc) (.slice Y.L Y.p.l.length Y.lc)
     unfold Pk.set8W at bt qs
     have cg:=Chg.mov Q4.out bt
     refine⟨Y,Lib.hid (K4.out.trans (bt.below (by have:=K4.out.size;have:=PGL.out;omega) (by intro x hx;rw[List.mem_singleton] at hx;omega))),Lib.hid qs,Lib.hid ⟨by rw[HRS.out];exact hY.out.1,(O4.out.chg cg (by decide) (by decide)).any (by rw[hY.out.1];exact pack_ok (rs:= []) hz4 (by simp[datZ]))⟩⟩
    ·have HYP:=Lib.hid hyp
     clear hyp
     go_wp2_with fail
     go_meet
     exact⟨y0,K2,Q2,Lib.hid ⟨HYP.out,hyA w2⟩⟩
   case rest=>
    obtain⟨Y,K5,Q5,Y5⟩:=hcut
    obtain⟨w5,hw5⟩:∃x,x=wc:=⟨_,rfl⟩
    subst hw5
    clear K2 Q2 HY0
    obtain⟨N16,hN16⟩:∃N:Nat,N=16*nr:=⟨_,rfl⟩
    have hN:(16:Int)*(nr:Int)=(N16:Int):=by omega
    have HN16:=Lib.hid hN16
    have hN80:N16≤80:=by omega
    have HF:=fun W=>Lib.hid (fill_any xb (n:=N16) (by omega) W)
    rw[HBN.out] at HF
    have B5:=Lib.hid (Cells.low B1.out (by have:=B1.out.lt;have:=HPG.out;omega) K5.out)
    have x3:w5.cell? ⟨xg,3,none⟩=some (.int .u8 bn):=Cells.cell B5.out 3
    clear hN16
    go_upto_region 19 with(go_at_call 14;refine(HF w5).out.mono ?_;rintro e w6 ⟨FA,rfl,hO,hb⟩;have K6:=Lib.hid (upB K5.out PGL.out hb);have Q6:=Lib.hid (Cells.below Q5.out hb);have B6:=Lib.hid (Cells.below B5.out hb);have Y6:Hid (Y.p=packZ z (rsOf L z)∧PackAt w6 Y):=⟨Y5.out.1,Y5.out.2.below hb⟩;have D6:=Lib.hid (Wire.gave_row hO (by rw[List.length_replicate];omega)).1;clear hO hb)
    have bb:Below w6.heap.size w6 (w6.alloc (.cells #[.int .i64 1,.int .i64 (lb:Int),.int .i64 (nr:Int),.int .i64 ((k:Int)+1),.int .i64 0,.int .i64 0,.slice FA N16 N16] 49)):=(Below.refl _ w6).alloc (Nat.le_refl _) _
    have K7:=Lib.hid (upB K6.out PGL.out bb)
    have Q7:=Lib.hid (Cells.below Q6.out bb)
    have B7:=Lib.hid (Cells.below B6.out bb)
    have Y7:Hid (Y.p=packZ z (rsOf L z)∧PackAt (w6.alloc (.cells #[.int .i64 1,.int .i64 (lb:Int),.int .i64 (nr:Int),.int .i64 ((k:Int)+1),.int .i64 0,.int .i64 0,.slice FA N16 N16] 49)) Y):=⟨Y6.out.1,Y6.out.2.below bb⟩
    have D7:=Lib.hid (Row.below D6.out bb)
    have R7:Hid (Cells (w6.alloc (.cells #[.int .i64 1,.int .i64 (lb:Int),.int .i64 (nr:Int),.int .i64 ((k:Int)+1),.int .i64 0,.int .i64 0,.slice FA N16 N16] 49)) w6.heap.size 49 #[.int .i64 1,.int .i64 (lb:Int),.int .i64 (nr:Int),.int .i64 ((k:Int)+1),.int .i64 0,.int .i64 0,.slice FA N16 N16]):=Cells.new _ _ _
    have GR:Hid (pg<w6.heap.size∧xg<w6.heap.size):=⟨Q6.out.lt,B6.out.lt⟩
    generalize w6.alloc (.cells #[.int .i64 1,.int .i64 (lb:Int),.int .i64 (nr:Int),.int .i64 ((k:Int)+1),.int .i64 0,.int .i64 0,.slice FA N16 N16] 49)=w7 at*
    obtain⟨rg,hrg⟩:∃p,p=w6.heap.size:=⟨_,rfl⟩
    have HRG:=Lib.hid hrg
    have BB:=Lib.hid bb
    rw[←hrg] at R7 GR
    rw[←hrg]
    clear bb K5 Q5 B5 Y5 x3 K6 Q6 B6 D6 HF hN hrg
    have x4:w7.cell? ⟨xg,4,none⟩=some (.bool xt):=Cells.cell B7.out 4
    go_upto_if 97 with fail
    go_cut [20] from 98 to 99 (fun s wx=>∃v:Rv,s= .pointer (some ⟨rg,0,none⟩)∧Hid (Below pg w1 wx)∧Hid (Cells wx pg 78 #[.int .i64 Y.p.h.host,.int .i64 Y.p.h.epoch,.int .i64 Y.p.h.seq,.int .i64 Y.p.zone,.int .i64 Y.p.cap,.int .i64 Y.p.at_,.slice Y.B Y.p.buf.length Y.bc,.slice Y.L Y.p.l.length Y.lc])∧Hid (Cells wx xg 44 #[.int .i64 xz,.int .i64 xl,.int .i64 xn,.int .u8 bn,.bool xt])∧Hid (Y.p=packZ z (rsOf L z)∧PackAt wx Y)∧Hid (Cells wx rg 49 #[.int .i64 v.r.kind,.int .i64 v.r.lba,.int .i64 v.r.n,.int .i64 v.r.ver,.int .i64 v.r.zone,.int .i64 v.r.off,.slice v.D v.r.data.length v.c])∧Hid (Row cb wx v.D v.r.data.length v.c v.r.data)∧Hid (WR ((k:Int)+1) v.r∧txR v.r=(bif xt then List.replicate 16 0#8 else List.replicate 16 xb)∧v.r.lba=(lb:Int)∧v.r.n=(nr:Int)))
    case first=>
     have HLB:=Lib.hid b6
     have HK:Hid (k<100000):=by show _<_;have:=HMM.out;omega
     have HNR:Hid (1≤nr∧nr≤5):=⟨hnr1,hnr5⟩
     rcases xt
     ·go_wp2_with fail
      go_meet
      obtain⟨h1,h2⟩:=wr_data (b:=xb) HK.out HLB.out HNR.out.1 HNR.out.2
      have hl:(List.replicate (16*nr) xb).length=N16:=by rw[List.length_replicate];exact HN16.out.symm
      refine⟨⟨⟨1,(lb:Int),(nr:Int),(k:Int)+1,0,0,List.replicate (16*nr) xb⟩,FA,N16⟩,rfl,K7,Q7,B7,Y7,?_,?_,Lib.hid ⟨h1,h2,rfl,rfl⟩⟩
      ·show Cells _ _ _ _
       dsimp only
       rw[hl];exact R7.out
      ·show Row _ _ _ _ _ _
       dsimp only
       rw[hl,←HN16.out]
       exact D7.out
     ·have f0:=Cells.frozen R7.out 0
      have f6:=Cells.frozen R7.out 6
      have e0:=Cells.cell R7.out 0
      have e6:=Cells.cell R7.out 6
      go_wp2_with fail
      go_meet
      obtain⟨h1,h2⟩:=wr_trim HK.out HLB.out HNR.out.1 HNR.out.2
      have s:=fun(w:World) (i:Nat) (v:Value)=>Mov.set1 w (S:= [rg]) (q:=rg) (by simp) i v
      have bt:Mov [rg] w7 ((w7.setCell ⟨rg,0,none⟩ (.int .i64 2)).setCell ⟨rg,6,none⟩ (.slice none 0 0)):=(s _ _ _).trans (s _ _ _) (fun _ h=> .inl h)
      have hpr:=GR.out
      have hrs:=HRG.out
      have hb67:Below w6.heap.size w6 ((w7.setCell ⟨rg,0,none⟩ (.int .i64 2)).setCell ⟨rg,6,none⟩ (.slice none 0 0)):=BB.out.trans (bt.below BB.out.size (by intro x hx;rw[List.mem_singleton] at hx;omega))
      refine⟨⟨⟨2,(lb:Int),(nr:Int),(k:Int)+1,0,0,[]⟩,none,0⟩,rfl,Lib.hid (K7.out.trans (bt.below (by have:=K7.out.size;have:=PGL.out;omega) (by intro x hx;rw[List.mem_singleton] at hx;omega))),Lib.hid (Q7.out.mov bt (by simp;omega)),Lib.hid (B7.out.mov bt (by simp;omega)),Lib.hid ⟨Y6.out.1,Y6.out.2.below hb67⟩,Lib.hid ?_,Lib.hid (Row.nil _ _),Lib.hid ⟨h1,h2,rfl,rfl⟩⟩
      simpa using(R7.out.set_ 0 (.int .i64 2)).set_ 6 (.slice none 0 0)
    case rest=>
     obtain⟨v,rfl,K8,Q8,B8,Y8,R8,D8,W8⟩:=hcut
     obtain⟨w8,hw8⟩:∃x,x=wc:=⟨_,rfl⟩
     subst hw8
     clear K7 Q7 B7 Y7 D7 R7 x4 Y6 BB HRG GR HN16 hN80
     obtain⟨k0,k1,k2,k3,k4,k5,k6,k7⟩:=eight_cells Q8.out
     have n0:=Cells.cell R8.out 0
     have n1:=Cells.cell R8.out 1
     have n2:=Cells.cell R8.out 2
     have n3:=Cells.cell R8.out 3
     have n4:=Cells.cell R8.out 4
     have n5:=Cells.cell R8.out 5
     have n6:=Cells.cell R8.out 6
     have b9:Below w8.heap.size w8 (w8.alloc (.cells #[.int .i64 v.r.kind,.int .i64 v.r.lba,.int .i64 v.r.n,.int .i64 v.r.ver,.int .i64 v.r.zone,.int .i64 v.r.off,.slice v.D v.r.data.length v.c] 49)):=(Below.refl _ w8).alloc (Nat.le_refl _) _
     have K9:=Lib.hid (upB K8.out PGL.out b9)
     have B9:=Lib.hid (Cells.below B8.out b9)
     have HAD:=addZ (rs:=rsOf L z) hz4 (Y8.out.2.below b9) Y8.out.1 (S1.out.lg.room z a6) (row_rec w8 v) (D8.out.below b9) W8.out.1.good
     clear b9
     rcases hf:decide ((datZ z (rsOf L z++ [v.r])).length≤4000)
     ·rw[hf,cond_false] at HAD
      have HAD:=Lib.hid HAD
      clear hf
      go_upto_region 23 with(go_at_call 25;refine HAD.out.mono ?_;rintro e w9 ⟨Y9,T,tk,td,rfl,-,hb⟩;have K10:=Lib.hid (upB K9.out PGL.out hb);clear hb)
      have bb:Below w9.heap.size w9 (w9.alloc (.cells #[.int .i64 Y9.p.h.host,.int .i64 Y9.p.h.epoch,.int .i64 Y9.p.h.seq,.int .i64 Y9.p.zone,.int .i64 Y9.p.cap,.int .i64 Y9.p.at_,.slice Y9.B Y9.p.buf.length Y9.bc,.slice Y9.L Y9.p.l.length Y9.lc] 78)):=(Below.refl _ w9).alloc (Nat.le_refl _) _
      have K11:=Lib.hid (upB K10.out PGL.out bb)
      generalize w9.alloc (.cells #[.int .i64 Y9.p.h.host,.int .i64 Y9.p.h.epoch,.int .i64 Y9.p.h.seq,.int .i64 Y9.p.zone,.int .i64 Y9.p.cap,.int .i64 Y9.p.at_,.slice Y9.B Y9.p.buf.length Y9.bc,.slice Y9.L Y9.p.l.length Y9.lc] 78)=w10 at*
      clear bb K10 K9 HAD k0 k1 k2 k3 k4 k5 k6 k7 n0 n1 n2 n3 n4 n5 n6 B9
      have S11:Hid (St w w10 n (k+1) g4 g7 pm wm X L ks ws):=(S1.out.below (by have:=K11.out;rw[HPG.out] at this;exact this)).later
      go_wp2_with fail
      go_roundw
      case rel=>exact⟨k+1,X,L,ks,ws,by go_num,by omega,S11⟩
      case measure=>simp[intOf];omega
     ·rw[hf,cond_true] at HAD
      have HAD:=Lib.hid HAD
      have HFT:=Lib.hid (of_decide_eq_true hf)
      clear hf
      go_upto_region 23 with(go_at_call 25;refine HAD.out.mono ?_;rintro e w9 ⟨Y9,T,tk,td,rfl,hY,hb⟩;have K10:=Lib.hid (upB K9.out PGL.out hb);have B10:=Lib.hid (Cells.below B9.out hb);clear hb)
      have bb:Below w9.heap.size w9 (w9.alloc (.cells #[.int .i64 Y9.p.h.host,.int .i64 Y9.p.h.epoch,.int .i64 Y9.p.h.seq,.int .i64 Y9.p.zone,.int .i64 Y9.p.cap,.int .i64 Y9.p.at_,.slice Y9.B Y9.p.buf.length Y9.bc,.slice Y9.L Y9.p.l.length Y9.lc] 78)):=(Below.refl _ w9).alloc (Nat.le_refl _) _
      have K11:=Lib.hid (upB K10.out PGL.out bb)
      have B11:=Lib.hid (Cells.below B10.out bb)
      have T11:Hid (Cells (w9.alloc (.cells #[.int .i64 Y9.p.h.host,.int .i64 Y9.p.h.epoch,.int .i64 Y9.p.h.seq,.int .i64 Y9.p.zone,.int .i64 Y9.p.cap,.int .i64 Y9.p.at_,.slice Y9.B Y9.p.buf.length Y9.bc,.slice Y9.L Y9.p.l.length Y9.lc] 78)) w9.heap.size 78 #[.int .i64 Y9.p.h.host,.int .i64 Y9.p.h.epoch,.int .i64 Y9.p.h.seq,.int .i64 Y9.p.zone,.int .i64 Y9.p.cap,.int .i64 Y9.p.at_,.slice Y9.B Y9.p.buf.length Y9.bc,.slice Y9.L Y9.p.l.length Y9.lc]):=Cells.new _ _ _
      have HFL:=Lib.hid (flushZ (z:=z) (rs:=rsOf L z) ((hY.out trivial).2.1.below bb) (hY.out trivial).1 (hY.out trivial).2.2)
      have GT:Hid (pg≤w9.heap.size∧w9.heap.size<(w9.alloc (.cells #[.int .i64 Y9.p.h.host,.int .i64 Y9.p.h.epoch,.int .i64 Y9.p.h.seq,.int .i64 Y9.p.zone,.int .i64 Y9.p.cap,.int .i64 Y9.p.at_,.slice Y9.B Y9.p.buf.length Y9.bc,.slice Y9.L Y9.p.l.length Y9.lc] 78)).heap.size):=⟨by have:=K10.out.size;have:=PGL.out;omega,by simp⟩
      generalize w9.alloc (.cells #[.int .i64 Y9.p.h.host,.int .i64 Y9.p.h.epoch,.int .i64 Y9.p.h.seq,.int .i64 Y9.p.zone,.int .i64 Y9.p.cap,.int .i64 Y9.p.at_,.slice Y9.B Y9.p.buf.length Y9.bc,.slice Y9.L Y9.p.l.length Y9.lc] 78)=w11 at*
      generalize w9.heap.size=tg at*
      clear bb K10 K9 HAD k0 k1 k2 k3 k4 k5 k6 k7 n0 n1 n2 n3 n4 n5 n6 B9 B10
      obtain⟨k0,k1,k2,k3,k4,k5,k6,k7⟩:=eight_cells T11.out
      go_upto_region 25 with(go_at_call 26;refine HFL.out.mono ?_;rintro e w12 ⟨CB,cd,cm,Y12,rfl,hC,hY12,hb⟩;have K12:=Lib.hid (upB K11.out PGL.out hb);have B12:=Lib.hid (Cells.below B11.out hb);have T12:=Lib.hid (Cells.below T11.out hb);have GC:Hid (tg<w12.heap.size):=T12.out.lt;have f0:(w12.alloc (.cells #[.int .i64 1,.int .i64 (z:Int),.int .i64 0,.int .i64 0,.int .i64 0,.slice CB cm cd] 55)).frozen? ⟨tg,0,none⟩=false:=Cells.frozen (Cells.alloc T12.out _) 0;have f1:(w12.alloc (.cells #[.int .i64 1,.int .i64 (z:Int),.int .i64 0,.int .i64 0,.int .i64 0,.slice CB cm cd] 55)).frozen? ⟨tg,1,none⟩=false:=Cells.frozen (Cells.alloc T12.out _) 1;have f2:(w12.alloc (.cells #[.int .i64 1,.int .i64 (z:Int),.int .i64 0,.int .i64 0,.int .i64 0,.slice CB cm cd] 55)).frozen? ⟨tg,2,none⟩=false:=Cells.frozen (Cells.alloc T12.out _) 2;have f3:(w12.alloc (.cells #[.int .i64 1,.int .i64 (z:Int),.int .i64 0,.int .i64 0,.int .i64 0,.slice CB cm cd] 55)).frozen? ⟨tg,3,none⟩=false:=Cells.frozen (Cells.alloc T12.out _) 3;have f4:(w12.alloc (.cells #[.int .i64 1,.int .i64 (z:Int),.int .i64 0,.int .i64 0,.int .i64 0,.slice CB cm cd] 55)).frozen? ⟨tg,4,none⟩=false:=Cells.frozen (Cells.alloc T12.out _) 4;have f5:(w12.alloc (.cells #[.int .i64 1,.int .i64 (z:Int),.int .i64 0,.int .i64 0,.int .i64 0,.slice CB cm cd] 55)).frozen? ⟨tg,5,none⟩=false:=Cells.frozen (Cells.alloc T12.out _) 5;have f6:(w12.alloc (.cells #[.int .i64 1,.int .i64 (z:Int),.int .i64 0,.int .i64 0,.int .i64 0,.slice CB cm cd] 55)).frozen? ⟨tg,6,none⟩=false:=Cells.frozen (Cells.alloc T12.out _) 6;have f7:(w12.alloc (.cells #[.int .i64 1,.int .i64 (z:Int),.int .i64 0,.int .i64 0,.int .i64 0,.slice CB cm cd] 55)).frozen? ⟨tg,7,none⟩=false:=Cells.frozen (Cells.alloc T12.out _) 7;have z0:=Cells.cell (Cells.alloc T12.out (.cells #[.int .i64 1,.int .i64 (z:Int),.int .i64 0,.int .i64 0,.int .i64 0,.slice CB cm cd] 55)) 0;have z1:=Cells.cell (Cells.alloc T12.out (.cells #[.int .i64 1,.int .i64 (z:Int),.int .i64 0,.int .i64 0,.int .i64 0,.slice CB cm cd] 55)) 1;have z2:=Cells.cell (Cells.alloc T12.out (.cells #[.int .i64 1,.int .i64 (z:Int),.int .i64 0,.int .i64 0,.int .i64 0,.slice CB cm cd] 55)) 2;have z3:=Cells.cell (Cells.alloc T12.out (.cells #[.int .i64 1,.int .i64 (z:Int),.int .i64 0,.int .i64 0,.int .i64 0,.slice CB cm cd] 55)) 3;have z4:=Cells.cell (Cells.alloc T12.out (.cells #[.int .i64 1,.int .i64 (z:Int),.int .i64 0,.int .i64 0,.int .i64 0,.slice CB cm cd] 55)) 4;have z5:=Cells.cell (Cells.alloc T12.out (.cells #[.int .i64 1,.int .i64 (z:Int),.int .i64 0,.int .i64 0,.int .i64 0,.slice CB cm cd] 55)) 5;have z6:=Cells.cell (Cells.alloc T12.out (.cells #[.int .i64 1,.int .i64 (z:Int),.int .i64 0,.int .i64 0,.int .i64 0,.slice CB cm cd] 55)) 6;have z7:=Cells.cell (Cells.alloc T12.out (.cells #[.int .i64 1,.int .i64 (z:Int),.int .i64 0,.int .i64 0,.int .i64 0,.slice CB cm cd] 55)) 7;clear hb)
      clear z0 z1 z2 z3 z4 z5 z6 z7 f0 f1 f2 f3 f4 f5 f6 f7 k0 k1 k2 k3 k4 k5 k6 k7
      have bb:Below w12.heap.size w12 (w12.alloc (.cells #[.int .i64 1,.int .i64 (z:Int),.int .i64 0,.int .i64 0,.int .i64 0,.slice CB cm cd] 55)):=(Below.refl _ w12).alloc (Nat.le_refl _) _
      have bt:=Pk.mov8 (w12.alloc (.cells #[.int .i64 1,.int .i64 (z:Int),.int .i64 0,.int .i64 0,.int .i64 0,.slice CB cm cd] 55)) tg (.int .i64 Y12.p.h.host) (.int .i64 Y12.p.h.epoch) (.int .i64 Y12.p.h.seq) (.int .i64 Y12.p.zone) (.int .i64 Y12.p.cap) (.int .i64 Y12.p.at_) (.slice Y12.B Y12.p.buf.length Y12.bc) (.slice Y12.L Y12.p.l.length Y12.lc)
      have qs:=Pk.set8 (Cells.below T12.out bb) (.int .i64 Y12.p.h.host) (.int .i64 Y12.p.h.epoch) (.int .i64 Y12.p.h.seq) (.int .i64 Y12.p.zone) (.int .i64 Y12.p.cap) (.int .i64 Y12.p.at_) (.slice Y12.B Y12.p.buf.length Y12.bc) (.slice Y12.L Y12.p.l.length Y12.lc)
      unfold Pk.set8W at bt qs
      have cg:=Chg.mov (Cells.below T12.out bb) bt
      have hgt:=GT.out
      have hgc:=GC.out
      have Q13:=Lib.hid (show Cells _ w12.heap.size 55 #[.int .i64 1,.int .i64 (z:Int),.int .i64 0,.int .i64 0,.int .i64 0,.slice CB cm cd] from(Cells.new _ _ _).mov bt (by simp;omega))
      have K13:=Lib.hid ((upB K12.out PGL.out bb).trans (bt.below (by have:=(upB K12.out PGL.out bb).size;have:=PGL.out;omega) (by intro x hx;rw[List.mem_singleton] at hx;omega)))
      have hxt:xg<tg:=by have:=B11.out.lt;have:=HPG.out;have:=B1.out.lt;omega
      have B13:=Lib.hid ((Cells.below B12.out bb).mov bt (by simp;omega))
      have T13:=Lib.hid qs
      have C13:=Lib.hid (cg.ownI (Mem.Owns.below hC.out.2.1 bb) (by decide))
      have R13:=Lib.hid (Wire.gave_row C13.out (by rw[←hC.out.1];have:=hC.out.2.2;omega)).1
      have HDO:=Lib.hid (doZ (S1.out.dev.below (by have:=K13.out;rw[HPG.out] at this;exact this)) S1.out.px hn1 hn4 S1.out.ok a6 HFT.out hC.out.1 R13.out)
      have E13:=Lib.hid (S1.out.c7.below (by have:=K13.out;rw[HPG.out] at this;exact this))
      clear bb bt qs cg hgt hgc K12 B12 T12 K11 B11 T11 HFL hC C13 R13 GC
      generalize hcg:w12.heap.size=cg at*
      generalize(((((((((w12.alloc (.cells #[.int .i64 1,.int .i64 (z:Int),.int .i64 0,.int .i64 0,.int .i64 0,.slice CB cm cd] 55)).setCell ⟨tg,0,none⟩ (.int .i64 Y12.p.h.host)).setCell ⟨tg,1,none⟩ (.int .i64 Y12.p.h.epoch)).setCell ⟨tg,2,none⟩ (.int .i64 Y12.p.h.seq)).setCell ⟨tg,3,none⟩ (.int .i64 Y12.p.zone)).setCell ⟨tg,4,none⟩ (.int .i64 Y12.p.cap)).setCell ⟨tg,5,none⟩ (.int .i64 Y12.p.at_)).setCell ⟨tg,6,none⟩ (.slice Y12.B Y12.p.buf.length Y12.bc)).setCell ⟨tg,7,none⟩ (.slice Y12.L Y12.p.l.length Y12.lc))=w13 at*
      clear hcg
      have GC2:Hid (tg<w13.heap.size):=T13.out.lt
      have m0:=Cells.cell E13.out 0
      have m1:=Cells.cell E13.out 1
      have m2:=Cells.cell E13.out 2
      have m3:=Cells.cell E13.out 3
      have p0:=Cells.cell Q13.out 0
      have p1:=Cells.cell Q13.out 1
      have p2:=Cells.cell Q13.out 2
      have p3:=Cells.cell Q13.out 3
      have p4:=Cells.cell Q13.out 4
      have p5:=Cells.cell Q13.out 5
      go_upto_region 26 with(go_at_call 16;refine HDO.out.mono ?_;rintro e w14 ⟨X14,at_,DC,dk,rfl,hX,hb⟩;have K14:=Lib.hid (upB K13.out PGL.out hb);have B14:=Lib.hid (Cells.below B13.out hb);have T14:=Lib.hid (Cells.below T13.out hb);have E14:=Lib.hid (Cells.below E13.out hb);have GW:=Lib.hid hb.size;clear hb)
      have bb:Below w14.heap.size w14 ((w14.alloc (.cells #[.int .i64 X14.cap,.int .i64 X14.op,.int .i64 X14.ac,.slice X14.A X14.n X14.c] 26)).alloc (.cells #[.int .i64 0,.int .i64 at_,.slice DC 0 dk] 51)):=((Below.refl _ w14).alloc (Nat.le_refl _) _).alloc (by simp) _
      have K15:=Lib.hid (upB K14.out PGL.out bb)
      have B15:=Lib.hid (Cells.below B14.out bb)
      have T15:=Lib.hid (Cells.below T14.out bb)
      have E15:=Lib.hid (Cells.below E14.out bb)
      have X15:Hid (DevAt ((w14.alloc (.cells #[.int .i64 X14.cap,.int .i64 X14.op,.int .i64 X14.ac,.slice X14.A X14.n X14.c] 26)).alloc (.cells #[.int .i64 0,.int .i64 at_,.slice DC 0 dk] 51)) X14∧X14.p=dvOf n (L++ [(z,v.r)])∧okD (dvOf n (L++ [(z,v.r)]))=true∧Fre w13.heap.size X14):=⟨hX.out.1.below bb,hX.out.2⟩
      have N15:Hid (Cells ((w14.alloc (.cells #[.int .i64 X14.cap,.int .i64 X14.op,.int .i64 X14.ac,.slice X14.A X14.n X14.c] 26)).alloc (.cells #[.int .i64 0,.int .i64 at_,.slice DC 0 dk] 51)) w14.heap.size 26 #[.int .i64 X14.cap,.int .i64 X14.op,.int .i64 X14.ac,.slice X14.A X14.n X14.c]):=(Cells.new _ _ _).alloc _
      have M15:Hid (Cells ((w14.alloc (.cells #[.int .i64 X14.cap,.int .i64 X14.op,.int .i64 X14.ac,.slice X14.A X14.n X14.c] 26)).alloc (.cells #[.int .i64 0,.int .i64 at_,.slice DC 0 dk] 51)) (w14.heap.size+1) 51 #[.int .i64 0,.int .i64 at_,.slice DC 0 dk]):=by
       have:=Cells.new (w14.alloc (.cells #[.int .i64 X14.cap,.int .i64 X14.op,.int .i64 X14.ac,.slice X14.A X14.n X14.c] 26)) #[.int .i64 0,.int .i64 at_,.slice DC 0 dk] 51
       rw[World.size_alloc] at this
       exact this
      clear bb m0 m1 m2 m3 p0 p1 p2 p3 p4 p5 K14 B14 T14 E14 K13 B13 T13 E13 Q13 HDO hX
      try simp only[World.size_alloc]
      generalize(w14.alloc (.cells #[.int .i64 X14.cap,.int .i64 X14.op,.int .i64 X14.ac,.slice X14.A X14.n X14.c] 26)).alloc (.cells #[.int .i64 0,.int .i64 at_,.slice DC 0 dk] 51)=w15 at*
      generalize w14.heap.size=dg at*
      have q0:=Cells.cell M15.out 0
      go_upto_region 28 with fail
      have m0:=Cells.cell N15.out 0
      have m1:=Cells.cell N15.out 1
      have m2:=Cells.cell N15.out 2
      have m3:=Cells.cell N15.out 3
      have p0:=Cells.cell E15.out 0
      have p1:=Cells.cell E15.out 1
      have p2:=Cells.cell E15.out 2
      have p3:=Cells.cell E15.out 3
      have f0:=Cells.frozen E15.out 0
      have f1:=Cells.frozen E15.out 1
      have f2:=Cells.frozen E15.out 2
      have f3:=Cells.frozen E15.out 3
      go_upto_region 29 with fail
      clear q0 m0 m1 m2 m3 p0 p1 p2 p3 f0 f1 f2 f3
      have bt:=Pk.mov4 w15 g7 (.int .i64 X14.cap) (.int .i64 X14.op) (.int .i64 X14.ac) (.slice X14.A X14.n X14.c)
      have qs:=Pk.set4 E15.out (.int .i64 X14.cap) (.int .i64 X14.op) (.int .i64 X14.ac) (.slice X14.A X14.n X14.c)
      unfold Pk.set4W at bt qs
      have S15:=Lib.hid (S1.out.below (by have:=K15.out;rw[HPG.out] at this;exact this))
      have low:=S15.out.low
      have hgt:=GT.out
      have hfx:=FX.out
      have hf0:=F0.out
      have hpg:=HPG.out
      have B16:=Lib.hid (B15.out.mov bt (by simp;omega))
      have T16:=Lib.hid (T15.out.mov bt (by simp;omega))
      have BT:=Lib.hid bt
      have E16:=Lib.hid qs
      obtain⟨w17,hput,hM17,hmv17,hsz17⟩:=putPk (S15.out.mp.mov bt (by simp;omega)) (z:Int) Y12
      have hqq:Hid (wm<w13.heap.size):=by
       show _<_
       have:=GC2.out;omega
      generalize((((w15.setCell ⟨g7,0,none⟩ (.int .i64 X14.cap)).setCell ⟨g7,1,none⟩ (.int .i64 X14.op)).setCell ⟨g7,2,none⟩ (.int .i64 X14.ac)).setCell ⟨g7,3,none⟩ (.slice X14.A X14.n X14.c))=w16 at*
      have B17:=Lib.hid (B16.out.mov hmv17 (by simp;omega))
      have MV17:=Lib.hid hmv17
      have M17:=Lib.hid hM17
      have HNX:Hid (xg≠wm):=by show _≠_;omega
      obtain⟨k0,k1,k2,k3,k4,k5,k6,k7⟩:=eight_cells T16.out
      clear bt qs low hgt hfx hf0 hpg hmv17 hM17 hsz17 E15 B15 T15 N15 M15 K15 T16 B16 GT GC2
      go_upto_region 30 with fail
      clear k0 k1 k2 k3 k4 k5 k6 k7 hput
      have MW17:Hid (MWt w17 wm ws):=(S15.out.mw.mov BT.out (by have:=S15.out.low;simp;omega)).mov MV17.out (by have:=S15.out.low;simp;omega)
      obtain⟨TB,hTB⟩:∃l,l=List.replicate 16 xb:=⟨_,rfl⟩
      obtain⟨TZ,hTZ⟩:∃l,l=List.replicate 16 0#8:=⟨_,rfl⟩
      have HTB:Hid (TB=List.replicate 16 xb∧TZ=List.replicate 16 0#8∧TB.length≤140737488351232∧TZ.length≤140737488351232):=⟨hTB,hTZ,by rw[hTB,List.length_replicate];omega,by rw[hTZ,List.length_replicate];omega⟩
      clear hTB hTZ
      have HF:∀W,Hid (Calls Tryz.prog 14 #[.int .u8 bn,.int .i64 16] W fun e w'=>∃A,e= .returned (.slice A 16 16)∧OwnB W.heap.size w' A 16 16 TB∧Below W.heap.size W w'):=fun W=>by
       have:=fill_any xb (n:=16) (by omega) W
       rw[HBN.out,←HTB.out.1] at this
       exact this
      have HF0:∀W,Hid (Calls Tryz.prog 14 #[.int .u8 0,.int .i64 16] W fun e w'=>∃A,e= .returned (.slice A 16 16)∧OwnB W.heap.size w' A 16 16 TZ∧Below W.heap.size W w'):=fun W=>by
       have:=fill_any 0#8 (n:=16) (by omega) W
       rw[←HTB.out.2.1] at this
       exact this
      have HLB:=Lib.hid b6
      go_wp2_with fail
      go_loopw [28,135] (fun _ i wi=>∃(j:Nat) (ws':List (Int × List (BitVec 8))),i= .int .i64 j∧j≤nr∧Hid (Mov [wm] w17 wi∧MWt wi wm ws'∧∀i:Int,getB ws' i=bif decide ((lb:Int)≤i)&&decide (i<(lb:Int)+(j:Int)) then some (bif xt then TZ else TB) else getB ws i)) (fun _ i _=>nr-(intOf i).toNat)
      case atStart=>
       refine⟨0,ws,rfl,by omega,Mov.refl _ _,MW17.out,fun i=> ?_⟩
       have:(decide ((lb:Int)≤i)&&decide (i<(lb:Int)+((0:Nat):Int)))=false:=by
        rw[Bool.and_eq_false_iff];simp only[decide_eq_false_iff_not];omega
       rw[this];rfl
      case round=>
       obtain⟨j,ws',rfl,hj,hI⟩:=hrel
       by_cases hjl:j<nr
       ·have hj0:(0:Int)≤(j:Int):=by omega
        have hj1:(j:Int)<(nr:Int):=by omega
        have B18:=Lib.hid (B17.out.mov hI.out.1 (by simp;have:=HNX.out;omega))
        have x3:wr.cell? ⟨xg,3,none⟩=some (.int .u8 bn):=Cells.cell B18.out 3
        have NX:∀(V:List (BitVec 8)) (us:List (Int × List (BitVec 8))),(V=bif xt then TZ else TB)→(∀i:Int,getB us i=if i=(lb:Int)+(j:Int) then some V else getB ws' i)→Hid (∀i:Int,getB us i=bif decide ((lb:Int)≤i)&&decide (i<(lb:Int)+((j+1:Nat):Int)) then some (bif xt then TZ else TB) else getB ws i):=by
         intro V us hV hu i
         rw[hu i,hI.out.2.2 i,hV]
         by_cases e:i=(lb:Int)+(j:Int)
         ·rw[if_pos e]
          have:(decide ((lb:Int)≤i)&&decide (i<(lb:Int)+((j+1:Nat):Int)))=true:=by
           rw[Bool.and_eq_true];simp only[decide_eq_true_eq];omega
          rw[this];rfl
         ·rw[if_neg e]
          have:decide (i<(lb:Int)+((j+1:Nat):Int))=decide (i<(lb:Int)+(j:Int)):=by
           rw[decide_eq_decide];omega
          rw[this]
        go_upto_region 34 with(first
         |(go_at_call 14;refine(HF wr).out.mono ?_;rintro e w18 ⟨FA,rfl,hO,hb⟩
           have hstr:=run_str (Wire.gave_row hO HTB.out.2.2.1).1
           obtain⟨w19,hput,hM19,hmv19,-⟩:=putWt (hI.out.2.1.below hb) ((lb:Int)+(j:Int)) TB
           have MV18:=Lib.hid ((hI.out.1.trans (Mov.of_below [wm] hb) (fun _ h=> .inl h)).trans hmv19 (fun _ h=> .inl h))
           have M19:=Lib.hid hM19
           have B19:=Lib.hid ((Cells.below B18.out hb).mov hmv19 (by simp;have:=HNX.out;omega))
           have x4:=Cells.cell B19.out 4
           clear hM19 hmv19 hb hO))
        clear hput hstr x3
        have HWK:=Lib.hid (NX)
        clear NX
        rcases xt
        ·go_wp2_with fail
         go_roundw
         case rel=>exact⟨j+1,_,by go_num,by omega,MV18.out,M19.out,(HWK.out TB _ rfl (fun i=>by rw[GM.get_set])).out⟩
         case measure=>simp[intOf];omega
        ·go_wp2_with (first
           |(go_at_call 14;refine(HF0 w19).out.mono ?_;rintro e w20 ⟨FA2,rfl,hO,hb⟩
             have hstr:=run_str (Wire.gave_row hO HTB.out.2.2.2).1
             obtain⟨w21,hput,hM21,hmv21,-⟩:=putWt (M19.out.below hb) ((lb:Int)+(j:Int)) TZ
             have MV21:=Lib.hid ((MV18.out.trans (Mov.of_below [wm] hb) (fun _ h=> .inl h)).trans hmv21 (fun _ h=> .inl h))
             have M21:=Lib.hid hM21
             clear hM21 hmv21 hb hO))
         clear hput hstr
         go_roundw
         case rel=>exact⟨j+1,_,by go_num,by omega,MV21.out,M21.out,(HWK.out TZ _ rfl (fun i=>by rw[GM.get_set,GM.get_set];split<;>rfl)).out⟩
         case measure=>simp[intOf];omega
       ·obtain rfl:j=nr:=by omega
        have HW:=hI.out
        have hn1:=W8.out.2.2.1
        have hn2:=W8.out.2.2.2
        have S18:Hid (St w _ n (k+1) g4 g7 pm wm X14 (L++ [(z,v.r)]) (setB ks (z:Int) Y12) ws'):=S15.out.next a6 W8.out.1 HFT.out X15.out.1 X15.out.2.1 X15.out.2.2.1 X15.out.2.2.2 hqq.out BT.out E16.out MV17.out M17.out (hY12.out.1) (hY12.out.2) HW.1 HW.2.1 (fun i=>by
         rw[HW.2.2 i,W8.out.2.1,HTB.out.1,HTB.out.2.1]
         unfold covB
         rw[hn1,hn2])
        clear HW hn1 hn2
        go_wp2_with fail
        go_roundw
        case rel=>exact⟨k+1,X14,L++ [(z,v.r)],setB ks (z:Int) Y12,ws',by go_num,by omega,S18⟩
        case measure=>simp[intOf];omega
  ·obtain rfl:k=m:=by omega
   have m0:=Cells.cell hS.out.c7 0
   have m1:=Cells.cell hS.out.c7 1
   have m2:=Cells.cell hS.out.c7 2
   have m3:=Cells.cell hS.out.c7 3
   have p0:=Cells.cell hS.out.c4 0
   have p1:=Cells.cell hS.out.c4 1
   have p2:=Cells.cell hS.out.c4 2
   have p3:=Cells.cell hS.out.c4 3
   have f0:=Cells.frozen hS.out.c4 0
   have f1:=Cells.frozen hS.out.c4 1
   have f2:=Cells.frozen hS.out.c4 2
   have f3:=Cells.frozen hS.out.c4 3
   go_wp2_with fail
   have bt:=Pk.mov4 wr g4 (.int .i64 X.cap) (.int .i64 X.op) (.int .i64 X.ac) (.slice X.A X.n X.c)
   have qs:=Pk.set4 hS.out.c4 (.int .i64 X.cap) (.int .i64 X.op) (.int .i64 X.ac) (.slice X.A X.n X.c)
   unfold Pk.set4W at bt qs
   have hl:=hS.out.low
   have hsz:=hS.out.lw.size
   refine bodyPost_ret_by (Ext.results_c2 rfl _ _ g4 _ _ _ _ rfl qs Tryz.underlying26 rfl (by kernel_rfl)) rfl ?_
   exact⟨X,L,wm,ws,rfl,Lib.hid ⟨devAt_mov hS.out.dev bt (fun g hg=>hS.out.ax g (by rw[List.mem_singleton] at hg;simp[hg])),hS.out.px,hS.out.ok,hS.out.lg,hS.out.mw.mov bt (by simp;omega),hS.out.wt,hS.out.lw.trans (bt.below hsz (by intro x hx;rw[List.mem_singleton] at hx;omega)),by omega⟩⟩
end Rp
end
section
open Go.ChangeShapes Go.WideShapes Go.ChangeAt Go.RowKit Mem Box
namespace Args
open Rp
variable {H:Type} {enc:TypeId × Value→H} {W:World}
theorem raw_write {fuel:Nat} {cs:List Value} {x:DataW H × List MemPlace} (hf:DataW.trod enc Tryz.prog W 0 (fun _=>true) true fuel 44 cs=some x) (hl:cs.length=5):
  ∃v:Wr,cs=cellsW v∧True:=by
 have hu:=Tryz.underlying44
 match cs,hl with
 | [c0,c1,c2,c3,c4],_=>
   obtain⟨xs,n,_,hx,_,hlen,hg⟩:=DataW.trod_struct hu hf
   have hxl:xs.length=5:=hlen
   match xs,hxl with
   | [y0,y1,y2,y3,y4],_=>
     have o3:Tryz.prog.cellsOf 3=1:=by kernel_rfl
     have o4:Tryz.prog.cellsOf 4=1:=by kernel_rfl
     have o5:Tryz.prog.cellsOf 5=1:=by kernel_rfl
     have g0:=hg 0 _ rfl
     have g1:=hg 1 _ rfl
     have g2:=hg 2 _ rfl
     have g3:=hg 3 _ rfl
     have g4:=hg 4 _ rfl
     simp[o3,o4,o5] at g0 g1 g2 g3 g4
     obtain⟨z,hz1,-,wz⟩:=DataW.trod_int Tryz.underlying3 g0
     obtain⟨l,hl1,-,wl⟩:=DataW.trod_int Tryz.underlying3 g1
     obtain⟨k,hk1,-,wk⟩:=DataW.trod_int Tryz.underlying3 g2
     obtain⟨b,hb1,-,wb⟩:=DataW.trod_int Tryz.underlying5 g3
     obtain⟨t,ht1,-⟩:=DataW.trod_bool Tryz.underlying4 g4
     simp only[List.cons.injEq,and_true] at hz1 hl1 hk1 hb1 ht1
     subst hz1 hl1 hk1 hb1 ht1
     have hb2:0≤b∧b≤255:=by
      simp[Lit.wf,IntKind.min,IntKind.max,IntKind.signed,IntKind.bits] at wb
      omega
     refine⟨⟨z,l,k,BitVec.ofNat 8 b.toNat,t⟩,?_,trivial⟩
     have e:cb (BitVec.ofNat 8 b.toNat)= .int .u8 b:=by
      show Value.int .u8 (((BitVec.ofNat 8 b.toNat).toNat:Nat):Int)= .int .u8 b
      congr 1
      rw[BitVec.toNat_ofNat]
      omega
     show _= [_,_,_,cb (BitVec.ofNat 8 b.toNat),_]
     rw[e]
theorem open_writes {v:Value} {d:DataW H} {p:List MemPlace} {base:Nat} (hok:Value.okWide Tryz.prog W .any base 22 v) (h:DataW.Trod enc Tryz.prog W 0 (fun _=>true) true 22 v d p)
  (hs:∀q∈d.weights Tryz.prog 22,q≤reachBytes):∃A n c xs,v= .slice A n c∧RowS cellsW 5 W A n c xs:=by
 obtain⟨A,n,c,xs,h1,h2,-⟩:=open_rowS (cells:=cellsW) (k:=5) (bytes:=32) (p:=fun _=>True) Tryz.underlying22 (by kernel_rfl) (by kernel_rfl) (by omega) (by omega) (fun _ _ _ hf hl _=>raw_write hf hl) hok h hs
 exact⟨A,n,c,xs,h1,h2⟩
end Args
end
section
open Go.RowKit Mem Box Zns
namespace Rp
open Seg (Hdr Rc Rv cellsOf RowR fits nums hnums nn frame headX recX frames check)
open Pk (zoneOf placeR flen)
open Zon (Zn Zv B8 nilZ cellsZ)
theorem maxV_le {B:Int}:∀ {l:List Tr},(∀x∈l,x.1.ver≤B)→∀v:Int,v≤B→l.foldl (fun v x=>max v x.1.ver) v≤B
 | [],_,v,hv=>hv
 |a::l,h,v,hv=>by
  rw[List.foldl_cons]
  exact maxV_le (fun x hx=>h x (by simp[hx])) _ (by have:=h a (by simp);omega)
theorem head_of (z:Nat) (rs:List Rc):(rs= []∧(fdZ z rs).hd=false∧headF (fdZ z rs)=⟨-1,0,0⟩∧(datZ z rs).length=0∧(fdZ z rs).used=0)∨((fdZ z rs).hd=true∧headF (fdZ z rs)=hz z∧0<(datZ z rs).length∧(fdZ z rs).used=(datZ z rs).length):=by
 cases rs with
 |nil=>exact .inl ⟨rfl,rfl,rfl,rfl,rfl⟩
 |cons a t=>
  refine .inr ⟨rfl,rfl,?_,?_⟩
  ·show 0<(frame (headX (hz z))++frames (a::t)).length
   have h1:=Pk.flen_ge a
   rw[List.length_append,Pk.frames_len_cons]
   omega
  ·show(frame (headX (hz z))).length+(frames (a::t)).length=(frame (headX (hz z))++frames (a::t)).length
   rw[List.length_append]
theorem heads_walk {A:Option Addr} {m c:Nat} {ls:List Wr} {w:World} (h:RowS cellsW 5 w A m c ls) (zones:Int):
  Calls Tryz.prog 7 #[.slice A m c,.int .i64 zones] w fun e w'=>e= .returned (.bool true)∧Below w.heap.size w w':=by
 have HLV:=Lib.hid (live_any w)
 have HH:=Lib.hid h
 have hmb:=h.big
 clear h
 by_cases hm:(40:Int)<(m:Int)
 ·go_enter Tryz.func7,Tryz.ntmps7
  go_wp2_with (go_at_call 8;refine HLV.out.mono ?_;rintro e w1 ⟨rfl,hb⟩;have L1:=Lib.hid hb;clear hb)
  go_ret
  exact⟨rfl,L1.out⟩
 ·obtain⟨r1,j1,k1,k2,k3,k4,k5,k6⟩:∃(r:Int) (j:Nat),Int.tmod zones 4=r∧ -4<r∧r<4∧Int.tmod (r+4) 4=j∧(r+4)%4=j∧j<4:=Cut.cut_at zones 4 (by omega)
  obtain⟨n,hn⟩:∃n:Nat,(1:Int)+(j1:Int)=(n:Int):=⟨1+j1,by omega⟩
  have hn1:1≤n:=by omega
  have hn4:n≤4:=by omega
  have HRUN:=fun W (hW:Below w.heap.size w W)=>Lib.hid (run_any (HH.out.below hW) (by omega:m≤40) hn1 hn4)
  go_enter Tryz.func7,Tryz.ntmps7
  go_upto_region 6 with(first
   |(go_at_call 8;refine HLV.out.mono ?_;rintro e w1 ⟨rfl,hb⟩;have L1:=Lib.hid hb;clear hb)
   |(go_at_call 9;refine(HRUN w1 L1.out).out.mono ?_;rintro e w2 ⟨⟨cap,op,ac,XA,xn,xc,xs⟩,L,mb,ws,rfl,hR⟩
     have L2:=Lib.hid (L1.out.trans (hR.out.bel.mono L1.out.size))
     obtain rfl:n=xn:=by have:=hR.out.dev.plen;rw[hR.out.px] at this;rw[show(dvOf n L).zs=zsOf n L from rfl,zsOf_len] at this;exact this
     dsimp only))
  clear k1 k2 k3 k4 k5 k6 hn HRUN HLV
  have bb:Below w2.heap.size w2 (w2.alloc (.cells #[.int .i64 cap,.int .i64 op,.int .i64 ac,.slice XA n xc] 26)):=(Below.refl _ w2).alloc (Nat.le_refl _) _
  have L3:=Lib.hid (L2.out.trans (bb.mono L2.out.size))
  have C3:Hid (Cells (w2.alloc (.cells #[.int .i64 cap,.int .i64 op,.int .i64 ac,.slice XA n xc] 26)) w2.heap.size 26 #[.int .i64 cap,.int .i64 op,.int .i64 ac,.slice XA n xc]):=Cells.new _ _ _
  have D3:Hid (Dev (w2.alloc (.cells #[.int .i64 cap,.int .i64 op,.int .i64 ac,.slice XA n xc] 26)) ⟨cap,op,ac,XA,n,xc,xs⟩ (fsOf n L)):=dev_of hR.out.lg hn4 (hR.out.dev.below bb) hR.out.px hR.out.ok
  have HLG:=Lib.hid hR.out.lg
  have HDT:Hid (∀(k:Nat) (v:Zv),xs[k]? =some v→k<n→v.z.data=datZ k (rsOf L k)):=fun k v hv hk=>by
   have e:=congrArg (fun d:Dv=>d.zs[k]?) hR.out.px
   have e1:(Dx.p ⟨cap,op,ac,XA,n,xc,xs⟩).zs[k]? =some v.z:=by show(xs.map Zv.z)[k]? =_;rw[List.getElem?_map,hv];rfl
   have e2:(dvOf n L).zs[k]? =_:=zsOf_get L hk
   have:=Option.some.inj (e1.symm.trans (e.trans e2))
   rw[this];rfl
  generalize w2.alloc (.cells #[.int .i64 cap,.int .i64 op,.int .i64 ac,.slice XA n xc] 26)=w3 at*
  generalize w2.heap.size=dg at*
  clear bb hR L2
  have HHD:=Lib.hid (heads_any D3.out)
  have HNW:=fun W (hW:Below w3.heap.size w3 W)=>Lib.hid (newest_any (D3.out.below hW) (good_of HLG.out hn4))
  have m0:=Cells.cell C3.out 0
  have m1:=Cells.cell C3.out 1
  have m2:=Cells.cell C3.out 2
  have m3:=Cells.cell C3.out 3
  dsimp only at HHD HNW
  go_upto_region 9 with(go_at_call 20;refine HHD.out.mono ?_;rintro e w4 ⟨HA,hc,rfl,hO,hb⟩;have K4:=Lib.hid hb;have R4:=Lib.hid (OwnS.Owns.row fitH hO (by omega));clear hb hO)
  clear m0 m1 m2 m3 HHD
  go_wp2_with fail
  go_loopw [10,11,12,13,15,43] (fun vm _ _ _ _ i wr=>∃k:Nat,i= .int .i64 k∧vm= .int .i64 (maxV (trAll (fsOf n L) (List.range k)))∧k≤n∧Hid (Below w4.heap.size w4 wr)) (fun _ _ _ _ _ i _=>n-(intOf i).toNat)
  case atStart=>exact⟨0,rfl,rfl,by omega,Below.refl _ _⟩
  case round=>
   obtain⟨k,rfl,rfl,hk,hB⟩:=hrel
   have KW:=Lib.hid (K4.out.trans (hB.out.mono K4.out.size))
   by_cases hlt:k<n
   ·have hk0:(0:Int)≤(k:Int):=by omega
    have hk1:(k:Int)<(n:Int):=by omega
    obtain⟨v,f,hv,hf,hhf,hrow,hcap⟩:=D3.out.zone hlt
    have hfe:f=fdZ k (rsOf L k):=Option.some.inj (hf.symm.trans (fsOf_get L hlt))
    have hde:=HDT.out k v hv hlt
    have hhx:((fsOf n L).map headF)[k]? =some (headF f):=by rw[List.getElem?_map,hf];rfl
    obtain⟨b,o,hA,hbl,hcc⟩:=(RowS.below R4.out hB.out).elem hhx
    subst hA
    obtain⟨hh,ehh⟩:∃x,x=headF f:=⟨_,rfl⟩
    rw[←ehh] at hcc
    have e0:wr.cell? ⟨b,o+k*3,none⟩=some (.int .i64 hh.host):=hcc wr rfl 0 _ rfl
    have e1:wr.cell? ⟨b,o+k*3+1,none⟩=some (.int .i64 hh.epoch):=hcc wr rfl 1 _ rfl
    have e2:wr.cell? ⟨b,o+k*3+2,none⟩=some (.int .i64 hh.seq):=hcc wr rfl 2 _ rfl
    have HEH:=Lib.hid ehh
    obtain⟨zb,zo,hZA,hzl,hzc⟩:=D3.out.at_.row.elem hv
    dsimp only at hZA
    subst hZA
    have HZ:=fun W (hW:Below w3.heap.size w3 W)=>Lib.hid (zone_any (hrow.below hW) (by omega) hhf)
    have HFE:=Lib.hid hfe
    have HDE:=Lib.hid hde
    have HGD:=Lib.hid hhf.good
    have HQ:Hid (f.rs.length≤20000):=by have h9:=hhf.many;show _≤_;omega
    have HFA:Hid (fdAt (fsOf n L) k=f):=by show _=_;rw[fdAt_of L hlt];exact hfe.symm
    have bb:Below wr.heap.size wr (wr.alloc (.cells #[.int .i64 hh.host,.int .i64 hh.epoch,.int .i64 hh.seq] 68)):=(Below.refl _ wr).alloc (Nat.le_refl _) _
    have B5:=Lib.hid (hB.out.trans (bb.mono hB.out.size))
    have K5:=Lib.hid (K4.out.trans (B5.out.mono K4.out.size))
    have H5:Hid (Cells (wr.alloc (.cells #[.int .i64 hh.host,.int .i64 hh.epoch,.int .i64 hh.seq] 68)) wr.heap.size 68 #[.int .i64 hh.host,.int .i64 hh.epoch,.int .i64 hh.seq]):=Cells.new _ _ _
    clear hv hf hhf hrow hcap hfe hde hhx hcc ehh hbl
    go_upto_region 15 with fail
    generalize wr.alloc (.cells #[.int .i64 hh.host,.int .i64 hh.epoch,.int .i64 hh.seq] 68)=w5 at*
    generalize wr.heap.size=hg at*
    clear bb hB KW e0 e1 e2
    have C5:=Lib.hid (Cells.below C3.out K5.out)
    have m3:w5.cell? ⟨dg,3,none⟩=some (.slice (some ⟨zb,zo,none⟩) n xc):=Cells.cell C5.out 3
    have z0:w5.cell? ⟨zb,zo+k*3,none⟩=some (.int .i64 v.z.st):=hzc w5 (K5.out.block zb hzl) 0 _ rfl
    have z1:w5.cell? ⟨zb,zo+k*3+1,none⟩=some (.int .i64 v.z.fc):=hzc w5 (K5.out.block zb hzl) 1 _ rfl
    have z2:w5.cell? ⟨zb,zo+k*3+2,none⟩=some (.slice v.D v.z.data.length v.c):=hzc w5 (K5.out.block zb hzl) 2 _ rfl
    go_upto_region 16 with(go_at_call 21;refine(HZ w5 K5.out).out.mono ?_;rintro e w6 ⟨zs,LA,LC,AA,AC,rfl,hF,hb⟩;have B6:=Lib.hid (B5.out.trans (hb.mono B5.out.size));have K6:=Lib.hid (K5.out.trans (hb.mono K5.out.size));have H6:=Lib.hid (Cells.below H5.out hb);have F6:=Lib.hid hF;clear hb hF)
    clear m3 z0 z1 z2 C5 HZ
    have bb:Below w6.heap.size w6 (w6.alloc (.cells #[.bool f.hd,.int .i64 f.h.host,.int .i64 f.h.epoch,.int .i64 f.h.seq,.slice LA f.rs.length LC,.slice AA f.rs.length AC,.int .i64 (f.used:Int)] 71)):=(Below.refl _ w6).alloc (Nat.le_refl _) _
    have B7:=Lib.hid (B6.out.trans (bb.mono B6.out.size))
    have K7:=Lib.hid (K6.out.trans (bb.mono K6.out.size))
    have H7:=Lib.hid (Cells.below H6.out bb)
    have N7:=Lib.hid (Seg.FoundIn.below F6.out bb)
    have G7:Hid (Cells (w6.alloc (.cells #[.bool f.hd,.int .i64 f.h.host,.int .i64 f.h.epoch,.int .i64 f.h.seq,.slice LA f.rs.length LC,.slice AA f.rs.length AC,.int .i64 (f.used:Int)] 71)) w6.heap.size 71 #[.bool f.hd,.int .i64 f.h.host,.int .i64 f.h.epoch,.int .i64 f.h.seq,.slice LA f.rs.length LC,.slice AA f.rs.length AC,.int .i64 (f.used:Int)]):=Cells.new _ _ _
    generalize w6.alloc (.cells #[.bool f.hd,.int .i64 f.h.host,.int .i64 f.h.epoch,.int .i64 f.h.seq,.slice LA f.rs.length LC,.slice AA f.rs.length AC,.int .i64 (f.used:Int)] 71)=w7 at*
    generalize w6.heap.size=fg at*
    clear bb B5 K5 H5 B6 K6 H6 F6
    have C7:=Lib.hid (Cells.below C3.out K7.out)
    have m3:w7.cell? ⟨dg,3,none⟩=some (.slice (some ⟨zb,zo,none⟩) n xc):=Cells.cell C7.out 3
    have z2:w7.cell? ⟨zb,zo+k*3+2,none⟩=some (.slice v.D v.z.data.length v.c):=hzc w7 (K7.out.block zb hzl) 2 _ rfl
    have p0:w7.cell? ⟨fg,0,none⟩=some (.bool f.hd):=Cells.cell G7.out 0
    have p2:w7.cell? ⟨fg,4,none⟩=some (.slice LA f.rs.length LC):=Cells.cell G7.out 4
    have p6:w7.cell? ⟨fg,6,none⟩=some (.int .i64 (f.used:Int)):=Cells.cell G7.out 6
    have q0:w7.cell? ⟨hg,0,none⟩=some (.int .i64 hh.host):=Cells.cell H7.out 0
    have HP2:=Lib.hid p2
    rcases head_of k (rsOf L k) with⟨-,t1,t2,t3,t4⟩|⟨t1,t2,t3,t4⟩
    ·have a1:f.hd=false:=by rw[HFE.out];exact t1
     have a2:hh.host= -1:=by rw[HEH.out,HFE.out,t2]
     have a3:v.z.data.length=0:=by rw[HDE.out];exact t3
     have a4:(f.used:Int)=0:=by rw[HFE.out,t4];rfl
     rw[a1] at p0
     rw[a2] at q0
     rw[a3] at z2
     rw[a4] at p6
     clear a1 a2 a3 a4 t1 t2 t3 t4 HEH HDE HFE p2
     go_big_quiet (fail)
     clear m3 z2 p0 p6 q0
     have B8:Hid (Below w4.heap.size w4 (w7.drewN nq)):=below_drewN B7.out nq
     have N8:=Lib.hid (Seg.FoundIn.below N7.out (below_drewN (Below.refl _ w7) nq))
     have p2:(w7.drewN nq).cell? ⟨fg,4,none⟩=some (.slice LA f.rs.length LC):=HP2.out
     generalize w7.drewN nq=w8 at*
     have hsl:(Seg.sized f.rs).length=f.rs.length:=by unfold Seg.sized;rw[List.length_map]
     have hzr:zs.map Rv.r=f.rs:=by rw[N8.out.recs,Seg.sized_fst]
     obtain⟨LA',LC',eL,hRR⟩:=Seg.OwnsR.row N8.out.rows (by rw[hsl];have:=HQ.out;omega) (fun x hx=>(Wire.gave_row (N8.out.data x hx) (by
      have h9:=(Mem.Owns.len (N8.out.data x hx))
      have h8:x.r∈f.rs:=by rw[←hzr];exact List.mem_map.2 ⟨x,hx,rfl⟩
      have h7:=(Seg.check_ok (HGD.out x.r h8).1).2
      omega)).1)
     rw[hsl] at hRR eL
     injection eL with eL1 _ eL3
     subst eL1 eL3
     have R8:=Lib.hid hRR
     have ZR:=Lib.hid hzr
     have HQ2:=HQ.out
     clear hsl hzr hRR B7 N7 HP2 N8 C7 G7 H7 K7
     go_upto_region 18 with fail
     go_wp2_with fail
     go_loopw [10,15,100] (fun vm _ i wi=>∃j:Nat,i= .int .i64 j∧vm= .int .i64 (maxV (trAll (fsOf n L) (List.range k)++(trF k f).take j))∧j≤f.rs.length∧Hid (Below w8.heap.size w8 wi)) (fun _ _ i _=>f.rs.length-(intOf i).toNat)
     case atStart=>exact⟨0,rfl,by rw[List.take_zero,List.append_nil],by omega,Below.refl _ _⟩
     case round=>
      obtain⟨j,rfl,rfl,hj,hI⟩:=hrel
      by_cases hjl:j<f.rs.length
      ·obtain⟨x,hx⟩:=R8.out.get hjl
       have hxr:f.rs[j]? =some x.r:=by rw[←ZR.out,List.getElem?_map,hx];rfl
       have HMX:Hid (maxV (trAll (fsOf n L) (List.range k)++(trF k f).take (j+1))=max (maxV (trAll (fsOf n L) (List.range k)++(trF k f).take j)) x.r.ver):=by
        show _=_
        unfold trF
        rw[trs_take_succ hxr,←List.append_assoc]
        exact maxV_snoc _ _
       obtain⟨rb,ro,eR,hrl,hrc⟩:=(Seg.RowR.below R8.out hI.out).at_ (by omega)
       subst eR
       have g0:wr.cell? ⟨rb,ro+j*7,none⟩=some (.int .i64 x.r.kind):=hrc j x hx 0 _ rfl
       have g1:wr.cell? ⟨rb,ro+j*7+1,none⟩=some (.int .i64 x.r.lba):=hrc j x hx 1 _ rfl
       have g2:wr.cell? ⟨rb,ro+j*7+2,none⟩=some (.int .i64 x.r.n):=hrc j x hx 2 _ rfl
       have g3:wr.cell? ⟨rb,ro+j*7+3,none⟩=some (.int .i64 x.r.ver):=hrc j x hx 3 _ rfl
       have g4:wr.cell? ⟨rb,ro+j*7+4,none⟩=some (.int .i64 x.r.zone):=hrc j x hx 4 _ rfl
       have g5:wr.cell? ⟨rb,ro+j*7+5,none⟩=some (.int .i64 x.r.off):=hrc j x hx 5 _ rfl
       have g6:wr.cell? ⟨rb,ro+j*7+6,none⟩=some (.slice x.D x.r.data.length x.c):=hrc j x hx 6 _ rfl
       have hj0:(0:Int)≤(j:Int):=by omega
       have hj1:(j:Int)<(f.rs.length:Int):=by omega
       clear hrc hx hxr
       have I9:=Lib.hid (hI.out.alloc hI.out.size (.cells #[.int .i64 x.r.kind,.int .i64 x.r.lba,.int .i64 x.r.n,.int .i64 x.r.ver,.int .i64 x.r.zone,.int .i64 x.r.off,.slice x.D x.r.data.length x.c] 49))
       have X9:Hid (Cells (wr.alloc (.cells #[.int .i64 x.r.kind,.int .i64 x.r.lba,.int .i64 x.r.n,.int .i64 x.r.ver,.int .i64 x.r.zone,.int .i64 x.r.off,.slice x.D x.r.data.length x.c] 49)) wr.heap.size 49 #[.int .i64 x.r.kind,.int .i64 x.r.lba,.int .i64 x.r.n,.int .i64 x.r.ver,.int .i64 x.r.zone,.int .i64 x.r.off,.slice x.D x.r.data.length x.c]):=Cells.new _ _ _
       go_upto_region 21 with fail
       generalize wr.alloc (.cells #[.int .i64 x.r.kind,.int .i64 x.r.lba,.int .i64 x.r.n,.int .i64 x.r.ver,.int .i64 x.r.zone,.int .i64 x.r.off,.slice x.D x.r.data.length x.c] 49)=w9 at*
       have y3:=Cells.cell X9.out 3
       have hmax:= @Ext.run_max2
       clear g0 g1 g2 g3 g4 g5 g6
       generalize maxV (trAll (fsOf n L) (List.range k)++(trF k f).take j)=v0 at*
       go_wp2_with fail
       go_roundw
       case rel=>exact⟨j+1,by go_num,by rw[HMX.out],by omega,I9.out⟩
       case measure=>simp[intOf];omega
      ·have hjq:j=f.rs.length:=by omega
       have HMV:Hid (maxV (trAll (fsOf n L) (List.range k)++(trF k f).take j)=maxV (trAll (fsOf n L) (List.range (k+1)))):=by
        show _=_
        rw[List.take_of_length_le (by unfold trF;rw[trs_len];omega)]
        unfold trAll
        rw[List.range_succ,List.flatMap_append,List.flatMap_cons,List.flatMap_nil,List.append_nil,HFA.out]
       have B9:=Lib.hid (B8.out.trans (hI.out.mono B8.out.size))
       generalize maxV (trAll (fsOf n L) (List.range k)++(trF k f).take j)=v0 at*
       clear hjq
       go_wp2_with fail
       go_roundw
       case rel=>exact⟨k+1,by go_num,by rw[HMV.out],by omega,B9.out⟩
       case measure=>simp[intOf];omega
    ·obtain⟨dl,hdl⟩:∃d:Nat,d=v.z.data.length:=⟨_,rfl⟩
     have a1:f.hd=true:=by rw[HFE.out];exact t1
     have a2:hh.host=(k:Int):=by rw[HEH.out,HFE.out,t2];rfl
     have a4:(f.used:Int)=(dl:Int):=by rw[HFE.out,t4,hdl,HDE.out]
     have a5:(0:Int)<(dl:Int):=by rw[hdl,HDE.out];omega
     have a6:0<dl:=by omega
     have a7:decide ((0:Int)<(dl:Int))=true:=decide_eq_true a5
     have a8:¬dl=0:=by omega
     rw[a1] at p0
     rw[a2] at q0
     rw[a4] at p6
     rw[←hdl] at z2
     clear a1 a2 a4 t1 t2 t3 t4 HEH HDE HFE p2 hdl
     go_big_quiet (fail)
     clear m3 z2 p0 p6 q0
     have B8:Hid (Below w4.heap.size w4 (w7.drewN nq)):=below_drewN B7.out nq
     have N8:=Lib.hid (Seg.FoundIn.below N7.out (below_drewN (Below.refl _ w7) nq))
     have p2:(w7.drewN nq).cell? ⟨fg,4,none⟩=some (.slice LA f.rs.length LC):=HP2.out
     generalize w7.drewN nq=w8 at*
     have hsl:(Seg.sized f.rs).length=f.rs.length:=by unfold Seg.sized;rw[List.length_map]
     have hzr:zs.map Rv.r=f.rs:=by rw[N8.out.recs,Seg.sized_fst]
     obtain⟨LA',LC',eL,hRR⟩:=Seg.OwnsR.row N8.out.rows (by rw[hsl];have:=HQ.out;omega) (fun x hx=>(Wire.gave_row (N8.out.data x hx) (by
      have h9:=(Mem.Owns.len (N8.out.data x hx))
      have h8:x.r∈f.rs:=by rw[←hzr];exact List.mem_map.2 ⟨x,hx,rfl⟩
      have h7:=(Seg.check_ok (HGD.out x.r h8).1).2
      omega)).1)
     rw[hsl] at hRR eL
     injection eL with eL1 _ eL3
     subst eL1 eL3
     have R8:=Lib.hid hRR
     have ZR:=Lib.hid hzr
     have HQ2:=HQ.out
     clear hsl hzr hRR B7 N7 HP2 N8 C7 G7 H7 K7
     go_upto_region 18 with fail
     go_wp2_with fail
     go_loopw [10,15,100] (fun vm _ i wi=>∃j:Nat,i= .int .i64 j∧vm= .int .i64 (maxV (trAll (fsOf n L) (List.range k)++(trF k f).take j))∧j≤f.rs.length∧Hid (Below w8.heap.size w8 wi)) (fun _ _ i _=>f.rs.length-(intOf i).toNat)
     case atStart=>exact⟨0,rfl,by rw[List.take_zero,List.append_nil],by omega,Below.refl _ _⟩
     case round=>
      obtain⟨j,rfl,rfl,hj,hI⟩:=hrel
      by_cases hjl:j<f.rs.length
      ·obtain⟨x,hx⟩:=R8.out.get hjl
       have hxr:f.rs[j]? =some x.r:=by rw[←ZR.out,List.getElem?_map,hx];rfl
       have HMX:Hid (maxV (trAll (fsOf n L) (List.range k)++(trF k f).take (j+1))=max (maxV (trAll (fsOf n L) (List.range k)++(trF k f).take j)) x.r.ver):=by
        show _=_
        unfold trF
        rw[trs_take_succ hxr,←List.append_assoc]
        exact maxV_snoc _ _
       obtain⟨rb,ro,eR,hrl,hrc⟩:=(Seg.RowR.below R8.out hI.out).at_ (by omega)
       subst eR
       have g0:wr.cell? ⟨rb,ro+j*7,none⟩=some (.int .i64 x.r.kind):=hrc j x hx 0 _ rfl
       have g1:wr.cell? ⟨rb,ro+j*7+1,none⟩=some (.int .i64 x.r.lba):=hrc j x hx 1 _ rfl
       have g2:wr.cell? ⟨rb,ro+j*7+2,none⟩=some (.int .i64 x.r.n):=hrc j x hx 2 _ rfl
       have g3:wr.cell? ⟨rb,ro+j*7+3,none⟩=some (.int .i64 x.r.ver):=hrc j x hx 3 _ rfl
       have g4:wr.cell? ⟨rb,ro+j*7+4,none⟩=some (.int .i64 x.r.zone):=hrc j x hx 4 _ rfl
       have g5:wr.cell? ⟨rb,ro+j*7+5,none⟩=some (.int .i64 x.r.off):=hrc j x hx 5 _ rfl
       have g6:wr.cell? ⟨rb,ro+j*7+6,none⟩=some (.slice x.D x.r.data.length x.c):=hrc j x hx 6 _ rfl
       have hj0:(0:Int)≤(j:Int):=by omega
       have hj1:(j:Int)<(f.rs.length:Int):=by omega
       clear hrc hx hxr
       have I9:=Lib.hid (hI.out.alloc hI.out.size (.cells #[.int .i64 x.r.kind,.int .i64 x.r.lba,.int .i64 x.r.n,.int .i64 x.r.ver,.int .i64 x.r.zone,.int .i64 x.r.off,.slice x.D x.r.data.length x.c] 49))
       have X9:Hid (Cells (wr.alloc (.cells #[.int .i64 x.r.kind,.int .i64 x.r.lba,.int .i64 x.r.n,.int .i64 x.r.ver,.int .i64 x.r.zone,.int .i64 x.r.off,.slice x.D x.r.data.length x.c] 49)) wr.heap.size 49 #[.int .i64 x.r.kind,.int .i64 x.r.lba,.int .i64 x.r.n,.int .i64 x.r.ver,.int .i64 x.r.zone,.int .i64 x.r.off,.slice x.D x.r.data.length x.c]):=Cells.new _ _ _
       go_upto_region 21 with fail
       generalize wr.alloc (.cells #[.int .i64 x.r.kind,.int .i64 x.r.lba,.int .i64 x.r.n,.int .i64 x.r.ver,.int .i64 x.r.zone,.int .i64 x.r.off,.slice x.D x.r.data.length x.c] 49)=w9 at*
       have y3:=Cells.cell X9.out 3
       have hmax:= @Ext.run_max2
       clear g0 g1 g2 g3 g4 g5 g6
       generalize maxV (trAll (fsOf n L) (List.range k)++(trF k f).take j)=v0 at*
       go_wp2_with fail
       go_roundw
       case rel=>exact⟨j+1,by go_num,by rw[HMX.out],by omega,I9.out⟩
       case measure=>simp[intOf];omega
      ·have hjq:j=f.rs.length:=by omega
       have HMV:Hid (maxV (trAll (fsOf n L) (List.range k)++(trF k f).take j)=maxV (trAll (fsOf n L) (List.range (k+1)))):=by
        show _=_
        rw[List.take_of_length_le (by unfold trF;rw[trs_len];omega)]
        unfold trAll
        rw[List.range_succ,List.flatMap_append,List.flatMap_cons,List.flatMap_nil,List.append_nil,HFA.out]
       have B9:=Lib.hid (B8.out.trans (hI.out.mono B8.out.size))
       generalize maxV (trAll (fsOf n L) (List.range k)++(trF k f).take j)=v0 at*
       clear hjq
       go_wp2_with fail
       go_roundw
       case rel=>exact⟨k+1,by go_num,by rw[HMV.out],by omega,B9.out⟩
       case measure=>simp[intOf];omega
   ·have hkn:k=n:=by omega
    subst hkn
    have C9:=Lib.hid (Cells.below C3.out KW.out)
    have m0:=Cells.cell C9.out 0
    have m1:=Cells.cell C9.out 1
    have m2:=Cells.cell C9.out 2
    have m3:=Cells.cell C9.out 3
    have HN9:=HNW wr KW.out
    have L9:=Lib.hid (L3.out.trans (KW.out.mono L3.out.size))
    have hle:maxV (trAll (fsOf k L) (List.range k))≤(m:Int):=maxV_le (fun x hx=>by
     obtain⟨z,hz,h2,-⟩:=HLG.out.tr hx
     exact(HLG.out.recs _ h2).2) 0 (by omega)
    clear HNW
    generalize maxV (trAll (fsOf k L) (List.range k))=mv at*
    go_wp2_with (go_at_call 17;refine HN9.out.mono ?_;rintro e w10 ⟨rfl,hb⟩;have L10:=Lib.hid (L9.out.trans (hb.mono L9.out.size));clear hb)
    go_ret
    exact⟨rfl,L10.out⟩
end Rp
end
section
open Go.ChangeShapes Go.WideShapes Go.ChangeAt Go.RowKit Mem Args
namespace Rp
theorem replayHeads_says:Frame.Says Rows.replayHeadsSpec 2:=by
 refine⟨rfl,fun H ds h=> ?_,fun H ds h=> ?_,fun H ds h=> ?_⟩<;>
 ·match ds,h with
  | [d0,d1],_=>rfl
theorem replayHeads_walks:Frame.Walks 7 [22,3]:=by
 intro H enc W args ds ps base hok hA hsz
 obtain⟨v0,vs0,d0,ds0,p0,q0,hargs,rfl,rfl,h0,r0⟩:=trodAll_cons hA
 obtain⟨v1,vs1,d1,ds1,p1,q1,rfl,rfl,rfl,h1,r1⟩:=trodAll_cons r0
 obtain⟨rfl,rfl,rfl⟩:=trodAll_nil r1
 obtain rfl:args= #[v0,v1]:=by cases args;simp_all
 obtain⟨A0,n0,c0,l0,rfl,k0⟩:=open_writes (hok 0 _ v0 rfl rfl) h0 (sized_arg hsz (j:=0) rfl rfl)
 obtain⟨z1,rfl,rfl,rfl,hz1⟩:=open_int Tryz.underlying3 (hok 1 _ v1 rfl rfl) h1
 exact heads_walk k0 z1
theorem replayHeads_over:Rows.replayHeadsRow.holds Tryz.pinned (OpenSpec.ofChange Rows.replayHeadsSpec):=
 OpenClaim.holds_of_wide 7 Tryz.f7 rfl rfl rfl rfl rfl rfl rfl ⟨rfl,rfl,rfl,rfl,rfl⟩ rfl rfl rfl rfl rfl (by kernel_rfl) Tryz.func7 (by kernel_rfl)
  (of_decide_eq_true (by kernel_rfl)) (by unfold Func.isWrapper;first|(rw[if_pos (by decide+kernel)];kernel_rfl)|(rw[if_neg (by decide+kernel)];exact⟨rfl,rfl⟩))
  (fun os started H enc _=>Frame.lifted (started:=started) Tryz.underlying4 (by kernel_rfl) Tryz.func7 (n:=2) (by rw[Tryz.params7];rfl) replayHeads_says (by rw[Tryz.params7];kernel_rfl) (by kernel_rfl)
   (ChangeSpec.witness6 (enc:=enc) (C:=Tryz.checked) false ⟨#[],#[.slice none 0 0,.int .i64 0],[]⟩ 8 (by kernel_rfl) (by kernel_rfl) (by kernel_rfl) (by kernel_rfl))
   (by rw[Tryz.params7];exact replayHeads_walks))
end Rp
theorem replayHeads_holds:Rows.ReplayHeadsSaid:=Rp.replayHeads_over
end
end Go.Proofs.YtmkagjnkpjpjcaaGreat
