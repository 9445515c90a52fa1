/-
  SEVERAL TEXTS IN ONE FILE: PRun, PRunW, PRunV, PRunOpen, PRunKeys, PRepTorn, PRunBack, PRepBackRow.
-/
import Derived.Test.YtmkagjnkpjpjcaaGreatJ19
import Derived.Test.YtmkagjnkpjpjcaaGreatJ18
import Derived.Test.YtmkagjnkpjpjcaaGreatJ02
import Derived.Test.YtmkagjnkpjpjcaaGreatJ13
import Derived.Test.YtmkagjnkpjpjcaaGreatJ04
namespace Go.Proofs.YtmkagjnkpjpjcaaGreat
set_option maxRecDepth 100000
set_option linter.unusedSimpArgs false
set_option linter.unusedVariables false
set_option maxHeartbeats 25600000
section
open Go.RowKit Mem Box Zns
namespace Rp
open Seg (Hdr Rc Rv cellsOf RowR hdV fits nums hnums nn frame headX recX frames check)
open Pk (Pp Px pxv PackAt OwnP zoneOf placeR flen places addP moreP behindP fitsP errB OkP beginP Apd Fre Did2 eight_cells)
open Zon (Zn Zv B8 nilZ cellsZ)
open GM (FMap getB setB Ky)
structure Ran (w w':World) (n k:Nat) (X:Dx) (L:Lg) (mb:Nat) (ws:List (Int × List B8)):Prop where
 dev:DevAt w' X
 px:X.p=dvOf n L
 ok:okD (dvOf n L)=true
 lg:LgOk n k L
 mw:MWt w' mb ws
 wt:∀j,getB ws j=wantL L j
 bel:Below w.heap.size w w'
 new:w.heap.size≤mb
def zeroPx:Px:=⟨Pk.zeroP,none,0,none,0,[]⟩
theorem look_pack {w:World} {r z:Nat} {rs:List Rc} {ks:List (Int × Px)} (h:MPk w r ks) (hk:PkOk ks z rs):∃(y:Px) (b:Bool),(Instr.lookup 76 (.map (some r)) (.int .i64 (z:Int)) true).run Tryz.prog w= .ok (.tuple #[.agg #[.int .i64 y.p.h.host,.int .i64 y.p.h.epoch,.int .i64 y.p.h.seq,.int .i64 y.p.zone,.int .i64 y.p.cap,.int .i64 y.p.at_,.slice y.B y.p.buf.length y.bc,.slice y.L y.p.l.length y.lc],.bool b]) w∧Hid ((b=false∧rs= [])∨(b=true∧y.p=packZ z rs∧∀W,PackAt W y)):=by
 rcases hk with⟨h1,h2⟩|⟨h1,y,h2,h3,h4⟩
 ·exact⟨zeroPx,false,getPk_none h h2,.inl ⟨rfl,h1⟩⟩
 ·exact⟨y,true,getPk_some h h2,.inr ⟨rfl,h3,h4⟩⟩
theorem upB {b:Nat} {w w1 w2:World} (h:Below b w w1) (hb:b≤w.heap.size) (h2:Below w1.heap.size w1 w2):Below b w w2:=h.trans (h2.mono (Nat.le_trans hb h.size))
theorem run_any {A:Option Addr} {m c:Nat} {ls:List Wr} {w:World} (h:RowS cellsW 5 w A m c ls) (hm:m≤40) {n:Nat} (hn1:1≤n) (hn4:n≤4):
  Calls Tryz.prog 9 #[.slice A m c,.int .i64 (n:Int)] w fun e w'=>∃(X:Dx) (L:Lg) (mb:Nat) (ws:List (Int × List B8)),e= .returned (.tuple #[.agg #[.int .i64 X.cap,.int .i64 X.op,.int .i64 X.ac,.slice X.A X.n X.c],.map (some mb),.bool true])∧Hid (Ran w w' n m X L mb ws):=by
 have HR:=Lib.hid h
 have hmm:= @run_makeMap Tryz.prog
 have HN:=fun w=>Lib.hid (newN hn1 hn4 w)
 have L1:=Lib.hid ((Below.refl w.heap.size w).alloc (Nat.le_refl _) (.cells #[.int .i64 0,.int .i64 0,.int .i64 0,.slice none 0 0] 26))
 have C1:Hid (Cells (w.alloc (.cells #[.int .i64 0,.int .i64 0,.int .i64 0,.slice none 0 0] 26)) w.heap.size 26 #[.int .i64 0,.int .i64 0,.int .i64 0,.slice none 0 0]):=Cells.new _ _ _
 clear h
 go_enter Tryz.func9,Tryz.ntmps9
 go_upto_region 1 with fail
 have G1:Hid (w.heap.size<(w.alloc (.cells #[.int .i64 0,.int .i64 0,.int .i64 0,.slice none 0 0] 26)).heap.size):=by show _<_;simp
 generalize w.alloc (.cells #[.int .i64 0,.int .i64 0,.int .i64 0,.slice none 0 0] 26)=w1 at*
 go_upto_region 2 with(go_at_call 22;refine(HN w1).out.mono ?_;rintro e w2 ⟨X,rfl,hX,hb⟩;have L2:=Lib.hid (L1.out.trans (hb.mono L1.out.size));have C2:=Lib.hid (Cells.below C1.out hb);have G2:Hid (w.heap.size<w2.heap.size):=Nat.lt_of_lt_of_le G1.out hb.size;clear hb)
 have A3:Below w2.heap.size w2 (w2.alloc (.cells #[.int .i64 X.cap,.int .i64 X.op,.int .i64 X.ac,.slice X.A X.n X.c] 26)):=(Below.refl _ w2).alloc (Nat.le_refl _) _
 have A4:Below w2.heap.size w2 (((w2.alloc (.cells #[.int .i64 X.cap,.int .i64 X.op,.int .i64 X.ac,.slice X.A X.n X.c] 26)).alloc (.map #[] 0)).alloc (.map #[] 0)):=(A3.alloc A3.size _).alloc (by have:=A3.size;simp at this ⊢;omega) _
 have S4:Hid (St w (((w2.alloc (.cells #[.int .i64 X.cap,.int .i64 X.op,.int .i64 X.ac,.slice X.A X.n X.c] 26)).alloc (.map #[] 0)).alloc (.map #[] 0)) n 0 w.heap.size w2.heap.size (w2.heap.size+1) (w2.heap.size+2) X [] [] []):=by
  have g2:=G2.out
  have c7:Cells (w2.alloc (.cells #[.int .i64 X.cap,.int .i64 X.op,.int .i64 X.ac,.slice X.A X.n X.c] 26)) w2.heap.size 26 #[.int .i64 X.cap,.int .i64 X.op,.int .i64 X.ac,.slice X.A X.n X.c]:=Cells.new _ _ _
  have hs:(w2.alloc (.cells #[.int .i64 X.cap,.int .i64 X.op,.int .i64 X.ac,.slice X.A X.n X.c] 26)).heap.size=w2.heap.size+1:=by simp
  have hap:∀g,w2.heap.size≤g→Apd X (some g):=fun g hg=>apd_late hX.out.1 hg
  have hmp:=FMap.made (Value.int .i64) (fun _:Int=>True) pxv (w2.alloc (.cells #[.int .i64 X.cap,.int .i64 X.op,.int .i64 X.ac,.slice X.A X.n X.c] 26))
  have hmw:=FMap.made (Value.int .i64) (fun _:Int=>True) (fun l:List B8=>Value.string (str l)) ((w2.alloc (.cells #[.int .i64 X.cap,.int .i64 X.op,.int .i64 X.ac,.slice X.A X.n X.c] 26)).alloc (.map #[] 0))
  rw[World.size_alloc,hs] at hmw
  rw[hs] at hmp
  refine⟨L2.out.trans (A4.mono L2.out.size),C2.out.below A4,(c7.alloc _).alloc _,hX.out.1.below A4,hX.out.2.1,dv_ok0 hn1 hn4,LgOk.nil,fun g hg=> ?_,hmp.below ((Below.refl _ _).alloc (Nat.le_refl _) _),fun z hz=> .inl ⟨rfl,rfl⟩,hmw,fun j=>rfl,Nat.le_refl _,g2,by omega,by omega,by simp⟩
  simp only[List.mem_cons,List.not_mem_nil,or_false] at hg
  rcases hg with rfl|rfl|rfl|rfl
  ·exact hX.out.2.2.box G1.out
  ·exact hap _ (Nat.le_refl _)
  ·exact hap _ (by omega)
  ·exact hap _ (by omega)
 go_upto_region 6 with fail
 have E3:(w2.alloc (.cells #[.int .i64 X.cap,.int .i64 X.op,.int .i64 X.ac,.slice X.A X.n X.c] 26)).heap.size=w2.heap.size+1:=by simp
 try simp only[World.size_alloc]
 generalize((w2.alloc (.cells #[.int .i64 X.cap,.int .i64 X.op,.int .i64 X.ac,.slice X.A X.n X.c] 26)).alloc (.map #[] 0)).alloc (.map #[] 0)=w4 at*
 obtain⟨pm,hpm⟩:∃r,r=w2.heap.size+1:=⟨_,rfl⟩
 obtain⟨wm,hwm⟩:∃r,r=w2.heap.size+2:=⟨_,rfl⟩
 have S5:=S4.out
 rw[←hpm,←hwm] at S5
 have S4:=Lib.hid S5
 try rw[show w2.heap.size+1+1=w2.heap.size+2 from rfl]
 try rw[←hpm]
 try rw[←hwm]
 clear A3 A4 E3 S5 hpm hwm HN L1 C1 G1 L2 C2 G2 hX hmm
 generalize w2.heap.size=g7 at*
 generalize w.heap.size=g4 at*
 have HMM:=Lib.hid hm
 go_wp2_with fail
 go_loopw [11,12,13,14,15,16,17,18,19,20,21,22,23,24,25,26,27,28,43] (fun _ _ _ _ _ _ _ _ _ _ _ _ _ _ _ _ _ _ i wr=>∃(k:Nat) (X:Dx) (L:Lg) (ks:List (Int × Px)) (ws:List (Int × List B8)),i= .int .i64 k∧k≤m∧Hid (St w wr n k g4 g7 pm wm X L ks ws)) (fun _ _ _ _ _ _ _ _ _ _ _ _ _ _ _ _ _ _ i _=>m-(intOf i).toNat)
 case atStart=>exact⟨0,X,[],[],[],rfl,by omega,S4⟩
 case round=>
  clear S4
  obtain⟨k,X,L,ks,ws,rfl,hk,hS⟩:=hrel
  by_cases hlt:k<m
  ·obtain⟨x,hx⟩:∃x,ls[k]? =some x:=⟨_,List.getElem?_eq_getElem (by have:=HR.out.len;omega)⟩
   obtain⟨b,o,hA,hb,hc⟩:=HR.out.elem hx
   subst hA
   obtain⟨bn,hbn⟩:∃z:Int,cb x.by_= .int .u8 z:=⟨_,rfl⟩
   have c0:wr.cell? ⟨b,o+k*5,none⟩=some (.int .i64 x.zone):=hc wr (hS.out.lw.block b hb) 0 _ rfl
   have c1:wr.cell? ⟨b,o+k*5+1,none⟩=some (.int .i64 x.lba):=hc wr (hS.out.lw.block b hb) 1 _ rfl
   have c2:wr.cell? ⟨b,o+k*5+2,none⟩=some (.int .i64 x.n):=hc wr (hS.out.lw.block b hb) 2 _ rfl
   have c3:wr.cell? ⟨b,o+k*5+3,none⟩=some (.int .u8 bn):=(hc wr (hS.out.lw.block b hb) 3 _ rfl).trans (congrArg some hbn)
   have c4:wr.cell? ⟨b,o+k*5+4,none⟩=some (.bool x.trim):=hc wr (hS.out.lw.block b hb) 4 _ rfl
   have hk0:(0:Int)≤(k:Int):=by omega
   have hkm:(k:Int)<(m:Int):=by omega
   have HBN:=Lib.hid hbn
   obtain⟨xz,xl,xn,xb,xt⟩:=x
   dsimp only at c0 c1 c2 c3 c4 HBN
   obtain⟨r1,z,a1,a2,a3,a4,a5,a6⟩:=Cut.cut_at xz n (by omega)
   obtain⟨r2,lb,b1,b2,b3,b4,b5,b6⟩:∃(r:Int) (j:Nat),Int.tmod xl 50=r∧ -50<r∧r<50∧Int.tmod (r+50) 50=j∧(r+50)%50=j∧j<50:=Cut.cut_at xl 50 (by omega)
   obtain⟨r3,q5,d1,d2,d3,d4,d5,d6⟩:∃(r:Int) (j:Nat),Int.tmod xn 5=r∧ -5<r∧r<5∧Int.tmod (r+5) 5=j∧(r+5)%5=j∧j<5:=Cut.cut_at xn 5 (by omega)
   obtain⟨nr,hnr⟩:∃M:Nat,(1:Int)+(q5:Int)=(M:Int):=⟨1+q5,by omega⟩
   have hnr1:1≤nr:=by omega
   have hnr5:nr≤5:=by omega
   have hn0:¬n=0:=by omega
   clear hx hc hb hbn
   go_upto_region 9 with fail
   have A1:Below wr.heap.size wr (wr.alloc (.cells #[.int .i64 xz,.int .i64 xl,.int .i64 xn,.int .u8 bn,.bool xt] 44)):=(Below.refl _ wr).alloc (Nat.le_refl _) _
   have S1:=Lib.hid (hS.out.below A1)
   have B1:Hid (Cells (wr.alloc (.cells #[.int .i64 xz,.int .i64 xl,.int .i64 xn,.int .u8 bn,.bool xt] 44)) wr.heap.size 44 #[.int .i64 xz,.int .i64 xl,.int .i64 xn,.int .u8 bn,.bool xt]):=Cells.new _ _ _
   generalize wr.alloc (.cells #[.int .i64 xz,.int .i64 xl,.int .i64 xn,.int .u8 bn,.bool xt] 44)=w1 at*
   have FX:Hid (wm<wr.heap.size):=hS.out.low.2.2.2.2
   clear A1 hS c0 c1 c2 c3 c4
   generalize wr.heap.size=xg at*
   have x0:w1.cell? ⟨xg,0,none⟩=some (.int .i64 xz):=Cells.cell B1.out 0
   have x1:w1.cell? ⟨xg,1,none⟩=some (.int .i64 xl):=Cells.cell B1.out 1
   have x2:w1.cell? ⟨xg,2,none⟩=some (.int .i64 xn):=Cells.cell B1.out 2
   go_upto_region 12 with fail
   clear x0 x1 x2 a1 a2 a3 a4 a5 b1 b2 b3 b4 b5 d1 d2 d3 d4 d5 hnr d6
   have hz4:z<4:=by omega
   obtain⟨y0,hb,hlook,HY0⟩:=look_pack S1.out.mp (S1.out.pk z a6)
   have F0:Hid (w.heap.size≤w1.heap.size∧wm<w1.heap.size):=⟨S1.out.lw.size,S1.out.low.2.2.2.2⟩
   go_upto_region 13 with fail
   clear hlook
   have K2:Hid (Below w1.heap.size w1 (w1.alloc (.cells #[.int .i64 y0.p.h.host,.int .i64 y0.p.h.epoch,.int .i64 y0.p.h.seq,.int .i64 y0.p.zone,.int .i64 y0.p.cap,.int .i64 y0.p.at_,.slice y0.B y0.p.buf.length y0.bc,.slice y0.L y0.p.l.length y0.lc] 78))):=(Below.refl _ w1).alloc (Nat.le_refl _) _
   have Q2:Hid (Cells (w1.alloc (.cells #[.int .i64 y0.p.h.host,.int .i64 y0.p.h.epoch,.int .i64 y0.p.h.seq,.int .i64 y0.p.zone,.int .i64 y0.p.cap,.int .i64 y0.p.at_,.slice y0.B y0.p.buf.length y0.bc,.slice y0.L y0.p.l.length y0.lc] 78)) w1.heap.size 78 #[.int .i64 y0.p.h.host,.int .i64 y0.p.h.epoch,.int .i64 y0.p.h.seq,.int .i64 y0.p.zone,.int .i64 y0.p.cap,.int .i64 y0.p.at_,.slice y0.B y0.p.buf.length y0.bc,.slice y0.L y0.p.l.length y0.lc]):=Cells.new _ _ _
   generalize w1.alloc (.cells #[.int .i64 y0.p.h.host,.int .i64 y0.p.h.epoch,.int .i64 y0.p.h.seq,.int .i64 y0.p.zone,.int .i64 y0.p.cap,.int .i64 y0.p.at_,.slice y0.B y0.p.buf.length y0.bc,.slice y0.L y0.p.l.length y0.lc] 78)=w2 at*
   obtain⟨pg,hpg⟩:∃p,p=w1.heap.size:=⟨_,rfl⟩
   have HPG:=Lib.hid hpg
   have PGL:Hid (pg≤w1.heap.size):=Nat.le_of_eq hpg
   rw[←hpg] at Q2 K2
   rw[←hpg]
   clear hpg
   go_upto_if 74 with fail
   go_cut [5,6,18,19] from 75 to 85 (fun _ _ _ _ wx=>∃Y:Px,Hid (Below pg w1 wx)∧Hid (Cells wx pg 78 #[.int .i64 Y.p.h.host,.int .i64 Y.p.h.epoch,.int .i64 Y.p.h.seq,.int .i64 Y.p.zone,.int .i64 Y.p.cap,.int .i64 Y.p.at_,.slice Y.B Y.p.buf.length Y.bc,.slice Y.L Y.p.l.length Y.lc])∧Hid (Y.p=packZ z (rsOf L z)∧PackAt wx Y))
   case first=>
    rcases HY0.out with⟨hb0,hrs⟩|⟨hb0,hyp,hyA⟩<;>subst hb0
    ·have HB:=fun w=>Lib.hid (beginZ hz4 w)
     have HRS:=Lib.hid hrs
     clear hrs
     skip
     go_upto_region 15 with(go_at_call 24;refine(HB w2).out.mono ?_;rintro e w3 ⟨Y,rfl,hY,hb⟩;have K3:=Lib.hid (upB K2.out PGL.out hb);have Q3:=Lib.hid (Cells.below Q2.out hb);clear hb)
     have bb:Below w3.heap.size w3 (w3.alloc (.cells #[.int .i64 Y.p.h.host,.int .i64 Y.p.h.epoch,.int .i64 Y.p.h.seq,.int .i64 Y.p.zone,.int .i64 Y.p.cap,.int .i64 Y.p.at_,.slice Y.B Y.p.buf.length Y.bc,.slice Y.L Y.p.l.length Y.lc] 78)):=(Below.refl _ w3).alloc (Nat.le_refl _) _
     have K4:=Lib.hid (upB K3.out PGL.out bb)
     have Q4:=Lib.hid (Cells.below Q3.out bb)
     have O4:=Lib.hid (OwnP.below hY.out.2 bb)
     have R4:Hid (Cells (w3.alloc (.cells #[.int .i64 Y.p.h.host,.int .i64 Y.p.h.epoch,.int .i64 Y.p.h.seq,.int .i64 Y.p.zone,.int .i64 Y.p.cap,.int .i64 Y.p.at_,.slice Y.B Y.p.buf.length Y.bc,.slice Y.L Y.p.l.length Y.lc] 78)) w3.heap.size 78 #[.int .i64 Y.p.h.host,.int .i64 Y.p.h.epoch,.int .i64 Y.p.h.seq,.int .i64 Y.p.zone,.int .i64 Y.p.cap,.int .i64 Y.p.at_,.slice Y.B Y.p.buf.length Y.bc,.slice Y.L Y.p.l.length Y.lc]):=Cells.new _ _ _
     generalize w3.alloc (.cells #[.int .i64 Y.p.h.host,.int .i64 Y.p.h.epoch,.int .i64 Y.p.h.seq,.int .i64 Y.p.zone,.int .i64 Y.p.cap,.int .i64 Y.p.at_,.slice Y.B Y.p.buf.length Y.bc,.slice Y.L Y.p.l.length Y.lc] 78)=w4 at*
     generalize w3.heap.size=q4 at*
     clear K3 Q3 bb
     obtain⟨k0,k1,k2,k3,k4,k5,k6,k7⟩:=eight_cells R4.out
     obtain⟨m0,m1,m2,m3,m4,m5,m6,m7⟩:=eight_cells Q4.out
     have f0:=Cells.frozen Q4.out 0
     have f1:=Cells.frozen Q4.out 1
     have f2:=Cells.frozen Q4.out 2
     have f3:=Cells.frozen Q4.out 3
     have f4:=Cells.frozen Q4.out 4
     have f5:=Cells.frozen Q4.out 5
     have f6:=Cells.frozen Q4.out 6
     have f7:=Cells.frozen Q4.out 7
     go_wp2_with fail
     go_meet
     have bt:=Pk.mov8 w4 pg (.int .i64 Y.p.h.host) (.int .i64 Y.p.h.epoch) (.int .i64 Y.p.h.seq) (.int .i64 Y.p.zone) (.int .i64 Y.p.cap) (.int .i64 Y.p.at_) (.slice Y.B Y.p.buf.length Y.bc) (.slice Y.L Y.p.l.length Y.lc)
     have qs:=Pk.set8 Q4.out (.int .i64 Y.p.h.host) (.int .i64 Y.p.h.epoch) (.int .i64 Y.p.h.seq) (.int .i64 Y.p.zone) (.int .i64 Y.p.cap) (.int .i64 Y.p.at_) (.slice Y.B Y.p.buf.length Y.bc) (.slice Y.L Y.p.l.length Y.lc)
     unfold Pk.set8W at bt qs
     have cg:=Chg.mov Q4.out bt
     refine⟨Y,Lib.hid (K4.out.trans (bt.below (by have:=K4.out.size;have:=PGL.out;omega) (by intro x hx;rw[List.mem_singleton] at hx;omega))),Lib.hid qs,Lib.hid ⟨by rw[HRS.out];exact hY.out.1,(O4.out.chg cg (by decide) (by decide)).any (by rw[hY.out.1];exact pack_ok (rs:= []) hz4 (by simp[datZ]))⟩⟩
    ·have HYP:=Lib.hid hyp
     clear hyp
     go_wp2_with fail
     go_meet
     exact⟨y0,K2,Q2,Lib.hid ⟨HYP.out,hyA w2⟩⟩
   case rest=>
    obtain⟨Y,K5,Q5,Y5⟩:=hcut
    obtain⟨w5,hw5⟩:∃x,x=wc:=⟨_,rfl⟩
    subst hw5
    clear K2 Q2 HY0
    obtain⟨N16,hN16⟩:∃N:Nat,N=16*nr:=⟨_,rfl⟩
    have hN:(16:Int)*(nr:Int)=(N16:Int):=by omega
    have HN16:=Lib.hid hN16
    have hN80:N16≤80:=by omega
    have HF:=fun W=>Lib.hid (fill_any xb (n:=N16) (by omega) W)
    rw[HBN.out] at HF
    have B5:=Lib.hid (Cells.low B1.out (by have:=B1.out.lt;have:=HPG.out;omega) K5.out)
    have x3:w5.cell? ⟨xg,3,none⟩=some (.int .u8 bn):=Cells.cell B5.out 3
    clear hN16
    go_upto_region 19 with(go_at_call 14;refine(HF w5).out.mono ?_;rintro e w6 ⟨FA,rfl,hO,hb⟩;have K6:=Lib.hid (upB K5.out PGL.out hb);have Q6:=Lib.hid (Cells.below Q5.out hb);have B6:=Lib.hid (Cells.below B5.out hb);have Y6:Hid (Y.p=packZ z (rsOf L z)∧PackAt w6 Y):=⟨Y5.out.1,Y5.out.2.below hb⟩;have D6:=Lib.hid (Wire.gave_row hO (by rw[List.length_replicate];omega)).1;clear hO hb)
    have bb:Below w6.heap.size w6 (w6.alloc (.cells #[.int .i64 1,.int .i64 (lb:Int),.int .i64 (nr:Int),.int .i64 ((k:Int)+1),.int .i64 0,.int .i64 0,.slice FA N16 N16] 49)):=(Below.refl _ w6).alloc (Nat.le_refl _) _
    have K7:=Lib.hid (upB K6.out PGL.out bb)
    have Q7:=Lib.hid (Cells.below Q6.out bb)
    have B7:=Lib.hid (Cells.below B6.out bb)
    have Y7:Hid (Y.p=packZ z (rsOf L z)∧PackAt (w6.alloc (.cells #[.int .i64 1,.int .i64 (lb:Int),.int .i64 (nr:Int),.int .i64 ((k:Int)+1),.int .i64 0,.int .i64 0,.slice FA N16 N16] 49)) Y):=⟨Y6.out.1,Y6.out.2.below bb⟩
    have D7:=Lib.hid (Row.below D6.out bb)
    have R7:Hid (Cells (w6.alloc (.cells #[.int .i64 1,.int .i64 (lb:Int),.int .i64 (nr:Int),.int .i64 ((k:Int)+1),.int .i64 0,.int .i64 0,.slice FA N16 N16] 49)) w6.heap.size 49 #[.int .i64 1,.int .i64 (lb:Int),.int .i64 (nr:Int),.int .i64 ((k:Int)+1),.int .i64 0,.int .i64 0,.slice FA N16 N16]):=Cells.new _ _ _
    have GR:Hid (pg<w6.heap.size∧xg<w6.heap.size):=⟨Q6.out.lt,B6.out.lt⟩
    generalize w6.alloc (.cells #[.int .i64 1,.int .i64 (lb:Int),.int .i64 (nr:Int),.int .i64 ((k:Int)+1),.int .i64 0,.int .i64 0,.slice FA N16 N16] 49)=w7 at*
    obtain⟨rg,hrg⟩:∃p,p=w6.heap.size:=⟨_,rfl⟩
    have HRG:=Lib.hid hrg
    have BB:=Lib.hid bb
    rw[←hrg] at R7 GR
    rw[←hrg]
    clear bb K5 Q5 B5 Y5 x3 K6 Q6 B6 D6 HF hN hrg
    have x4:w7.cell? ⟨xg,4,none⟩=some (.bool xt):=Cells.cell B7.out 4
    go_upto_if 97 with fail
    go_cut [20] from 98 to 99 (fun s wx=>∃v:Rv,s= .pointer (some ⟨rg,0,none⟩)∧Hid (Below pg w1 wx)∧Hid (Cells wx pg 78 #[.int .i64 Y.p.h.host,.int .i64 Y.p.h.epoch,.int .i64 Y.p.h.seq,.int .i64 Y.p.zone,.int .i64 Y.p.cap,.int .i64 Y.p.at_,.slice Y.B Y.p.buf.length Y.bc,.slice Y.L Y.p.l.length Y.lc])∧Hid (Cells wx xg 44 #[.int .i64 xz,.int .i64 xl,.int .i64 xn,.int .u8 bn,.bool xt])∧Hid (Y.p=packZ z (rsOf L z)∧PackAt wx Y)∧Hid (Cells wx rg 49 #[.int .i64 v.r.kind,.int .i64 v.r.lba,.int .i64 v.r.n,.int .i64 v.r.ver,.int .i64 v.r.zone,.int .i64 v.r.off,.slice v.D v.r.data.length v.c])∧Hid (Row cb wx v.D v.r.data.length v.c v.r.data)∧Hid (WR ((k:Int)+1) v.r∧txR v.r=(bif xt then List.replicate 16 0#8 else List.replicate 16 xb)∧v.r.lba=(lb:Int)∧v.r.n=(nr:Int)))
    case first=>
     have HLB:=Lib.hid b6
     have HK:Hid (k<100000):=by show _<_;have:=HMM.out;omega
     have HNR:Hid (1≤nr∧nr≤5):=⟨hnr1,hnr5⟩
     rcases xt
     ·go_wp2_with fail
      go_meet
      obtain⟨h1,h2⟩:=wr_data (b:=xb) HK.out HLB.out HNR.out.1 HNR.out.2
      have hl:(List.replicate (16*nr) xb).length=N16:=by rw[List.length_replicate];exact HN16.out.symm
      refine⟨⟨⟨1,(lb:Int),(nr:Int),(k:Int)+1,0,0,List.replicate (16*nr) xb⟩,FA,N16⟩,rfl,K7,Q7,B7,Y7,?_,?_,Lib.hid ⟨h1,h2,rfl,rfl⟩⟩
      ·show Cells _ _ _ _
       dsimp only
       rw[hl];exact R7.out
      ·show Row _ _ _ _ _ _
       dsimp only
       rw[hl,←HN16.out]
       exact D7.out
     ·have f0:=Cells.frozen R7.out 0
      have f6:=Cells.frozen R7.out 6
      have e0:=Cells.cell R7.out 0
      have e6:=Cells.cell R7.out 6
      go_wp2_with fail
      go_meet
      obtain⟨h1,h2⟩:=wr_trim HK.out HLB.out HNR.out.1 HNR.out.2
      have s:=fun(w:World) (i:Nat) (v:Value)=>Mov.set1 w (S:= [rg]) (q:=rg) (by simp) i v
      have bt:Mov [rg] w7 ((w7.setCell ⟨rg,0,none⟩ (.int .i64 2)).setCell ⟨rg,6,none⟩ (.slice none 0 0)):=(s _ _ _).trans (s _ _ _) (fun _ h=> .inl h)
      have hpr:=GR.out
      have hrs:=HRG.out
      have hb67:Below w6.heap.size w6 ((w7.setCell ⟨rg,0,none⟩ (.int .i64 2)).setCell ⟨rg,6,none⟩ (.slice none 0 0)):=BB.out.trans (bt.below BB.out.size (by intro x hx;rw[List.mem_singleton] at hx;omega))
      refine⟨⟨⟨2,(lb:Int),(nr:Int),(k:Int)+1,0,0,[]⟩,none,0⟩,rfl,Lib.hid (K7.out.trans (bt.below (by have:=K7.out.size;have:=PGL.out;omega) (by intro x hx;rw[List.mem_singleton] at hx;omega))),Lib.hid (Q7.out.mov bt (by simp;omega)),Lib.hid (B7.out.mov bt (by simp;omega)),Lib.hid ⟨Y6.out.1,Y6.out.2.below hb67⟩,Lib.hid ?_,Lib.hid (Row.nil _ _),Lib.hid ⟨h1,h2,rfl,rfl⟩⟩
      simpa using(R7.out.set_ 0 (.int .i64 2)).set_ 6 (.slice none 0 0)
    case rest=>
     obtain⟨v,rfl,K8,Q8,B8,Y8,R8,D8,W8⟩:=hcut
     obtain⟨w8,hw8⟩:∃x,x=wc:=⟨_,rfl⟩
     subst hw8
     clear K7 Q7 B7 Y7 D7 R7 x4 Y6 BB HRG GR HN16 hN80
     obtain⟨k0,k1,k2,k3,k4,k5,k6,k7⟩:=eight_cells Q8.out
     have n0:=Cells.cell R8.out 0
     have n1:=Cells.cell R8.out 1
     have n2:=Cells.cell R8.out 2
     have n3:=Cells.cell R8.out 3
     have n4:=Cells.cell R8.out 4
     have n5:=Cells.cell R8.out 5
     have n6:=Cells.cell R8.out 6
     have b9:Below w8.heap.size w8 (w8.alloc (.cells #[.int .i64 v.r.kind,.int .i64 v.r.lba,.int .i64 v.r.n,.int .i64 v.r.ver,.int .i64 v.r.zone,.int .i64 v.r.off,.slice v.D v.r.data.length v.c] 49)):=(Below.refl _ w8).alloc (Nat.le_refl _) _
     have K9:=Lib.hid (upB K8.out PGL.out b9)
     have B9:=Lib.hid (Cells.below B8.out b9)
     have HAD:=addZ (rs:=rsOf L z) hz4 (Y8.out.2.below b9) Y8.out.1 (S1.out.lg.room z a6) (row_rec w8 v) (D8.out.below b9) W8.out.1.good
     clear b9
     rcases hf:decide ((datZ z (rsOf L z++ [v.r])).length≤4000)
     ·rw[hf,cond_false] at HAD
      have HAD:=Lib.hid HAD
      clear hf
      go_upto_region 23 with(go_at_call 25;refine HAD.out.mono ?_;rintro e w9 ⟨Y9,T,tk,td,rfl,-,hb⟩;have K10:=Lib.hid (upB K9.out PGL.out hb);clear hb)
      have bb:Below w9.heap.size w9 (w9.alloc (.cells #[.int .i64 Y9.p.h.host,.int .i64 Y9.p.h.epoch,.int .i64 Y9.p.h.seq,.int .i64 Y9.p.zone,.int .i64 Y9.p.cap,.int .i64 Y9.p.at_,.slice Y9.B Y9.p.buf.length Y9.bc,.slice Y9.L Y9.p.l.length Y9.lc] 78)):=(Below.refl _ w9).alloc (Nat.le_refl _) _
      have K11:=Lib.hid (upB K10.out PGL.out bb)
      generalize w9.alloc (.cells #[.int .i64 Y9.p.h.host,.int .i64 Y9.p.h.epoch,.int .i64 Y9.p.h.seq,.int .i64 Y9.p.zone,.int .i64 Y9.p.cap,.int .i64 Y9.p.at_,.slice Y9.B Y9.p.buf.length Y9.bc,.slice Y9.L Y9.p.l.length Y9.lc] 78)=w10 at*
      clear bb K10 K9 HAD k0 k1 k2 k3 k4 k5 k6 k7 n0 n1 n2 n3 n4 n5 n6 B9
      have S11:Hid (St w w10 n (k+1) g4 g7 pm wm X L ks ws):=(S1.out.below (by have:=K11.out;rw[HPG.out] at this;exact this)).later
      go_wp2_with fail
      go_roundw
      case rel=>exact⟨k+1,X,L,ks,ws,by go_num,by omega,S11⟩
      case measure=>simp[intOf];omega
     ·rw[hf,cond_true] at HAD
      have HAD:=Lib.hid HAD
      have HFT:=Lib.hid (of_decide_eq_true hf)
      clear hf
      go_upto_region 23 with(go_at_call 25;refine HAD.out.mono ?_;rintro e w9 ⟨Y9,T,tk,td,rfl,hY,hb⟩;have K10:=Lib.hid (upB K9.out PGL.out hb);have B10:=Lib.hid (Cells.below B9.out hb);clear hb)
      have bb:Below w9.heap.size w9 (w9.alloc (.cells #[.int .i64 Y9.p.h.host,.int .i64 Y9.p.h.epoch,.int .i64 Y9.p.h.seq,.int .i64 Y9.p.zone,.int .i64 Y9.p.cap,.int .i64 Y9.p.at_,.slice Y9.B Y9.p.buf.length Y9.bc,.slice Y9.L Y9.p.l.length Y9.lc] 78)):=(Below.refl _ w9).alloc (Nat.le_refl _) _
      have K11:=Lib.hid (upB K10.out PGL.out bb)
      have B11:=Lib.hid (Cells.below B10.out bb)
      have T11:Hid (Cells (w9.alloc (.cells #[.int .i64 Y9.p.h.host,.int .i64 Y9.p.h.epoch,.int .i64 Y9.p.h.seq,.int .i64 Y9.p.zone,.int .i64 Y9.p.cap,.int .i64 Y9.p.at_,.slice Y9.B Y9.p.buf.length Y9.bc,.slice Y9.L Y9.p.l.length Y9.lc] 78)) w9.heap.size 78 #[.int .i64 Y9.p.h.host,.int .i64 Y9.p.h.epoch,.int .i64 Y9.p.h.seq,.int .i64 Y9.p.zone,.int .i64 Y9.p.cap,.int .i64 Y9.p.at_,.slice Y9.B Y9.p.buf.length Y9.bc,.slice Y9.L Y9.p.l.length Y9.lc]):=Cells.new _ _ _
      have HFL:=Lib.hid (flushZ (z:=z) (rs:=rsOf L z) ((hY.out trivial).2.1.below bb) (hY.out trivial).1 (hY.out trivial).2.2)
      have GT:Hid (pg≤w9.heap.size∧w9.heap.size<(w9.alloc (.cells #[.int .i64 Y9.p.h.host,.int .i64 Y9.p.h.epoch,.int .i64 Y9.p.h.seq,.int .i64 Y9.p.zone,.int .i64 Y9.p.cap,.int .i64 Y9.p.at_,.slice Y9.B Y9.p.buf.length Y9.bc,.slice Y9.L Y9.p.l.length Y9.lc] 78)).heap.size):=⟨by have:=K10.out.size;have:=PGL.out;omega,by simp⟩
      generalize w9.alloc (.cells #[.int .i64 Y9.p.h.host,.int .i64 Y9.p.h.epoch,.int .i64 Y9.p.h.seq,.int .i64 Y9.p.zone,.int .i64 Y9.p.cap,.int .i64 Y9.p.at_,.slice Y9.B Y9.p.buf.length Y9.bc,.slice Y9.L Y9.p.l.length Y9.lc] 78)=w11 at*
      generalize w9.heap.size=tg at*
      clear bb K10 K9 HAD k0 k1 k2 k3 k4 k5 k6 k7 n0 n1 n2 n3 n4 n5 n6 B9 B10
      obtain⟨k0,k1,k2,k3,k4,k5,k6,k7⟩:=eight_cells T11.out
      go_upto_region 25 with(go_at_call 26;refine HFL.out.mono ?_;rintro e w12 ⟨CB,cd,cm,Y12,rfl,hC,hY12,hb⟩;have K12:=Lib.hid (upB K11.out PGL.out hb);have B12:=Lib.hid (Cells.below B11.out hb);have T12:=Lib.hid (Cells.below T11.out hb);have GC:Hid (tg<w12.heap.size):=T12.out.lt;have f0:(w12.alloc (.cells #[.int .i64 1,.int .i64 (z:Int),.int .i64 0,.int .i64 0,.int .i64 0,.slice CB cm cd] 55)).frozen? ⟨tg,0,none⟩=false:=Cells.frozen (Cells.alloc T12.out _) 0;have f1:(w12.alloc (.cells #[.int .i64 1,.int .i64 (z:Int),.int .i64 0,.int .i64 0,.int .i64 0,.slice CB cm cd] 55)).frozen? ⟨tg,1,none⟩=false:=Cells.frozen (Cells.alloc T12.out _) 1;have f2:(w12.alloc (.cells #[.int .i64 1,.int .i64 (z:Int),.int .i64 0,.int .i64 0,.int .i64 0,.slice CB cm cd] 55)).frozen? ⟨tg,2,none⟩=false:=Cells.frozen (Cells.alloc T12.out _) 2;have f3:(w12.alloc (.cells #[.int .i64 1,.int .i64 (z:Int),.int .i64 0,.int .i64 0,.int .i64 0,.slice CB cm cd] 55)).frozen? ⟨tg,3,none⟩=false:=Cells.frozen (Cells.alloc T12.out _) 3;have f4:(w12.alloc (.cells #[.int .i64 1,.int .i64 (z:Int),.int .i64 0,.int .i64 0,.int .i64 0,.slice CB cm cd] 55)).frozen? ⟨tg,4,none⟩=false:=Cells.frozen (Cells.alloc T12.out _) 4;have f5:(w12.alloc (.cells #[.int .i64 1,.int .i64 (z:Int),.int .i64 0,.int .i64 0,.int .i64 0,.slice CB cm cd] 55)).frozen? ⟨tg,5,none⟩=false:=Cells.frozen (Cells.alloc T12.out _) 5;have f6:(w12.alloc (.cells #[.int .i64 1,.int .i64 (z:Int),.int .i64 0,.int .i64 0,.int .i64 0,.slice CB cm cd] 55)).frozen? ⟨tg,6,none⟩=false:=Cells.frozen (Cells.alloc T12.out _) 6;have f7:(w12.alloc (.cells #[.int .i64 1,.int .i64 (z:Int),.int .i64 0,.int .i64 0,.int .i64 0,.slice CB cm cd] 55)).frozen? ⟨tg,7,none⟩=false:=Cells.frozen (Cells.alloc T12.out _) 7;have z0:=Cells.cell (Cells.alloc T12.out (.cells #[.int .i64 1,.int .i64 (z:Int),.int .i64 0,.int .i64 0,.int .i64 0,.slice CB cm cd] 55)) 0;have z1:=Cells.cell (Cells.alloc T12.out (.cells #[.int .i64 1,.int .i64 (z:Int),.int .i64 0,.int .i64 0,.int .i64 0,.slice CB cm cd] 55)) 1;have z2:=Cells.cell (Cells.alloc T12.out (.cells #[.int .i64 1,.int .i64 (z:Int),.int .i64 0,.int .i64 0,.int .i64 0,.slice CB cm cd] 55)) 2;have z3:=Cells.cell (Cells.alloc T12.out (.cells #[.int .i64 1,.int .i64 (z:Int),.int .i64 0,.int .i64 0,.int .i64 0,.slice CB cm cd] 55)) 3;have z4:=Cells.cell (Cells.alloc T12.out (.cells #[.int .i64 1,.int .i64 (z:Int),.int .i64 0,.int .i64 0,.int .i64 0,.slice CB cm cd] 55)) 4;have z5:=Cells.cell (Cells.alloc T12.out (.cells #[.int .i64 1,.int .i64 (z:Int),.int .i64 0,.int .i64 0,.int .i64 0,.slice CB cm cd] 55)) 5;have z6:=Cells.cell (Cells.alloc T12.out (.cells #[.int .i64 1,.int .i64 (z:Int),.int .i64 0,.int .i64 0,.int .i64 0,.slice CB cm cd] 55)) 6;have z7:=Cells.cell (Cells.alloc T12.out (.cells #[.int .i64 1,.int .i64 (z:Int),.int .i64 0,.int .i64 0,.int .i64 0,.slice CB cm cd] 55)) 7;clear hb)
      clear z0 z1 z2 z3 z4 z5 z6 z7 f0 f1 f2 f3 f4 f5 f6 f7 k0 k1 k2 k3 k4 k5 k6 k7
      have bb:Below w12.heap.size w12 (w12.alloc (.cells #[.int .i64 1,.int .i64 (z:Int),.int .i64 0,.int .i64 0,.int .i64 0,.slice CB cm cd] 55)):=(Below.refl _ w12).alloc (Nat.le_refl _) _
      have bt:=Pk.mov8 (w12.alloc (.cells #[.int .i64 1,.int .i64 (z:Int),.int .i64 0,.int .i64 0,.int .i64 0,.slice CB cm cd] 55)) tg (.int .i64 Y12.p.h.host) (.int .i64 Y12.p.h.epoch) (.int .i64 Y12.p.h.seq) (.int .i64 Y12.p.zone) (.int .i64 Y12.p.cap) (.int .i64 Y12.p.at_) (.slice Y12.B Y12.p.buf.length Y12.bc) (.slice Y12.L Y12.p.l.length Y12.lc)
      have qs:=Pk.set8 (Cells.below T12.out bb) (.int .i64 Y12.p.h.host) (.int .i64 Y12.p.h.epoch) (.int .i64 Y12.p.h.seq) (.int .i64 Y12.p.zone) (.int .i64 Y12.p.cap) (.int .i64 Y12.p.at_) (.slice Y12.B Y12.p.buf.length Y12.bc) (.slice Y12.L Y12.p.l.length Y12.lc)
      unfold Pk.set8W at bt qs
      have cg:=Chg.mov (Cells.below T12.out bb) bt
      have hgt:=GT.out
      have hgc:=GC.out
      have Q13:=Lib.hid (show Cells _ w12.heap.size 55 #[.int .i64 1,.int .i64 (z:Int),.int .i64 0,.int .i64 0,.int .i64 0,.slice CB cm cd] from(Cells.new _ _ _).mov bt (by simp;omega))
      have K13:=Lib.hid ((upB K12.out PGL.out bb).trans (bt.below (by have:=(upB K12.out PGL.out bb).size;have:=PGL.out;omega) (by intro x hx;rw[List.mem_singleton] at hx;omega)))
      have hxt:xg<tg:=by have:=B11.out.lt;have:=HPG.out;have:=B1.out.lt;omega
      have B13:=Lib.hid ((Cells.below B12.out bb).mov bt (by simp;omega))
      have T13:=Lib.hid qs
      have C13:=Lib.hid (cg.ownI (Mem.Owns.below hC.out.2.1 bb) (by decide))
      have R13:=Lib.hid (Wire.gave_row C13.out (by rw[←hC.out.1];have:=hC.out.2.2;omega)).1
      have HDO:=Lib.hid (doZ (S1.out.dev.below (by have:=K13.out;rw[HPG.out] at this;exact this)) S1.out.px hn1 hn4 S1.out.ok a6 HFT.out hC.out.1 R13.out)
      have E13:=Lib.hid (S1.out.c7.below (by have:=K13.out;rw[HPG.out] at this;exact this))
      clear bb bt qs cg hgt hgc K12 B12 T12 K11 B11 T11 HFL hC C13 R13 GC
      generalize hcg:w12.heap.size=cg at*
      generalize(((((((((w12.alloc (.cells #[.int .i64 1,.int .i64 (z:Int),.int .i64 0,.int .i64 0,.int .i64 0,.slice CB cm cd] 55)).setCell ⟨tg,0,none⟩ (.int .i64 Y12.p.h.host)).setCell ⟨tg,1,none⟩ (.int .i64 Y12.p.h.epoch)).setCell ⟨tg,2,none⟩ (.int .i64 Y12.p.h.seq)).setCell ⟨tg,3,none⟩ (.int .i64 Y12.p.zone)).setCell ⟨tg,4,none⟩ (.int .i64 Y12.p.cap)).setCell ⟨tg,5,none⟩ (.int .i64 Y12.p.at_)).setCell ⟨tg,6,none⟩ (.slice Y12.B Y12.p.buf.length Y12.bc)).setCell ⟨tg,7,none⟩ (.slice Y12.L Y12.p.l.length Y12.lc))=w13 at*
      clear hcg
      have GC2:Hid (tg<w13.heap.size):=T13.out.lt
      have m0:=Cells.cell E13.out 0
      have m1:=Cells.cell E13.out 1
      have m2:=Cells.cell E13.out 2
      have m3:=Cells.cell E13.out 3
      have p0:=Cells.cell Q13.out 0
      have p1:=Cells.cell Q13.out 1
      have p2:=Cells.cell Q13.out 2
      have p3:=Cells.cell Q13.out 3
      have p4:=Cells.cell Q13.out 4
      have p5:=Cells.cell Q13.out 5
      go_upto_region 26 with(go_at_call 16;refine HDO.out.mono ?_;rintro e w14 ⟨X14,at_,DC,dk,rfl,hX,hb⟩;have K14:=Lib.hid (upB K13.out PGL.out hb);have B14:=Lib.hid (Cells.below B13.out hb);have T14:=Lib.hid (Cells.below T13.out hb);have E14:=Lib.hid (Cells.below E13.out hb);have GW:=Lib.hid hb.size;clear hb)
      have bb:Below w14.heap.size w14 ((w14.alloc (.cells #[.int .i64 X14.cap,.int .i64 X14.op,.int .i64 X14.ac,.slice X14.A X14.n X14.c] 26)).alloc (.cells #[.int .i64 0,.int .i64 at_,.slice DC 0 dk] 51)):=((Below.refl _ w14).alloc (Nat.le_refl _) _).alloc (by simp) _
      have K15:=Lib.hid (upB K14.out PGL.out bb)
      have B15:=Lib.hid (Cells.below B14.out bb)
      have T15:=Lib.hid (Cells.below T14.out bb)
      have E15:=Lib.hid (Cells.below E14.out bb)
      have X15:Hid (DevAt ((w14.alloc (.cells #[.int .i64 X14.cap,.int .i64 X14.op,.int .i64 X14.ac,.slice X14.A X14.n X14.c] 26)).alloc (.cells #[.int .i64 0,.int .i64 at_,.slice DC 0 dk] 51)) X14∧X14.p=dvOf n (L++ [(z,v.r)])∧okD (dvOf n (L++ [(z,v.r)]))=true∧Fre w13.heap.size X14):=⟨hX.out.1.below bb,hX.out.2⟩
      have N15:Hid (Cells ((w14.alloc (.cells #[.int .i64 X14.cap,.int .i64 X14.op,.int .i64 X14.ac,.slice X14.A X14.n X14.c] 26)).alloc (.cells #[.int .i64 0,.int .i64 at_,.slice DC 0 dk] 51)) w14.heap.size 26 #[.int .i64 X14.cap,.int .i64 X14.op,.int .i64 X14.ac,.slice X14.A X14.n X14.c]):=(Cells.new _ _ _).alloc _
      have M15:Hid (Cells ((w14.alloc (.cells #[.int .i64 X14.cap,.int .i64 X14.op,.int .i64 X14.ac,.slice X14.A X14.n X14.c] 26)).alloc (.cells #[.int .i64 0,.int .i64 at_,.slice DC 0 dk] 51)) (w14.heap.size+1) 51 #[.int .i64 0,.int .i64 at_,.slice DC 0 dk]):=by
       have:=Cells.new (w14.alloc (.cells #[.int .i64 X14.cap,.int .i64 X14.op,.int .i64 X14.ac,.slice X14.A X14.n X14.c] 26)) #[.int .i64 0,.int .i64 at_,.slice DC 0 dk] 51
       rw[World.size_alloc] at this
       exact this
      clear bb m0 m1 m2 m3 p0 p1 p2 p3 p4 p5 K14 B14 T14 E14 K13 B13 T13 E13 Q13 HDO hX
      try simp only[World.size_alloc]
      generalize(w14.alloc (.cells #[.int .i64 X14.cap,.int .i64 X14.op,.int .i64 X14.ac,.slice X14.A X14.n X14.c] 26)).alloc (.cells #[.int .i64 0,.int .i64 at_,.slice DC 0 dk] 51)=w15 at*
      generalize w14.heap.size=dg at*
      have q0:=Cells.cell M15.out 0
      go_upto_region 28 with fail
      have m0:=Cells.cell N15.out 0
      have m1:=Cells.cell N15.out 1
      have m2:=Cells.cell N15.out 2
      have m3:=Cells.cell N15.out 3
      have p0:=Cells.cell E15.out 0
      have p1:=Cells.cell E15.out 1
      have p2:=Cells.cell E15.out 2
      have p3:=Cells.cell E15.out 3
      have f0:=Cells.frozen E15.out 0
      have f1:=Cells.frozen E15.out 1
      have f2:=Cells.frozen E15.out 2
      have f3:=Cells.frozen E15.out 3
      go_upto_region 29 with fail
      clear q0 m0 m1 m2 m3 p0 p1 p2 p3 f0 f1 f2 f3
      have bt:=Pk.mov4 w15 g7 (.int .i64 X14.cap) (.int .i64 X14.op) (.int .i64 X14.ac) (.slice X14.A X14.n X14.c)
      have qs:=Pk.set4 E15.out (.int .i64 X14.cap) (.int .i64 X14.op) (.int .i64 X14.ac) (.slice X14.A X14.n X14.c)
      unfold Pk.set4W at bt qs
      have S15:=Lib.hid (S1.out.below (by have:=K15.out;rw[HPG.out] at this;exact this))
      have low:=S15.out.low
      have hgt:=GT.out
      have hfx:=FX.out
      have hf0:=F0.out
      have hpg:=HPG.out
      have B16:=Lib.hid (B15.out.mov bt (by simp;omega))
      have T16:=Lib.hid (T15.out.mov bt (by simp;omega))
      have BT:=Lib.hid bt
      have E16:=Lib.hid qs
      obtain⟨w17,hput,hM17,hmv17,hsz17⟩:=putPk (S15.out.mp.mov bt (by simp;omega)) (z:Int) Y12
      have hqq:Hid (wm<w13.heap.size):=by
       show _<_
       have:=GC2.out;omega
      generalize((((w15.setCell ⟨g7,0,none⟩ (.int .i64 X14.cap)).setCell ⟨g7,1,none⟩ (.int .i64 X14.op)).setCell ⟨g7,2,none⟩ (.int .i64 X14.ac)).setCell ⟨g7,3,none⟩ (.slice X14.A X14.n X14.c))=w16 at*
      have B17:=Lib.hid (B16.out.mov hmv17 (by simp;omega))
      have MV17:=Lib.hid hmv17
      have M17:=Lib.hid hM17
      have HNX:Hid (xg≠wm):=by show _≠_;omega
      obtain⟨k0,k1,k2,k3,k4,k5,k6,k7⟩:=eight_cells T16.out
      clear bt qs low hgt hfx hf0 hpg hmv17 hM17 hsz17 E15 B15 T15 N15 M15 K15 T16 B16 GT GC2
      go_upto_region 30 with fail
      clear k0 k1 k2 k3 k4 k5 k6 k7 hput
      have MW17:Hid (MWt w17 wm ws):=(S15.out.mw.mov BT.out (by have:=S15.out.low;simp;omega)).mov MV17.out (by have:=S15.out.low;simp;omega)
      obtain⟨TB,hTB⟩:∃l,l=List.replicate 16 xb:=⟨_,rfl⟩
      obtain⟨TZ,hTZ⟩:∃l,l=List.replicate 16 0#8:=⟨_,rfl⟩
      have HTB:Hid (TB=List.replicate 16 xb∧TZ=List.replicate 16 0#8∧TB.length≤140737488351232∧TZ.length≤140737488351232):=⟨hTB,hTZ,by rw[hTB,List.length_replicate];omega,by rw[hTZ,List.length_replicate];omega⟩
      clear hTB hTZ
      have HF:∀W,Hid (Calls Tryz.prog 14 #[.int .u8 bn,.int .i64 16] W fun e w'=>∃A,e= .returned (.slice A 16 16)∧OwnB W.heap.size w' A 16 16 TB∧Below W.heap.size W w'):=fun W=>by
       have:=fill_any xb (n:=16) (by omega) W
       rw[HBN.out,←HTB.out.1] at this
       exact this
      have HF0:∀W,Hid (Calls Tryz.prog 14 #[.int .u8 0,.int .i64 16] W fun e w'=>∃A,e= .returned (.slice A 16 16)∧OwnB W.heap.size w' A 16 16 TZ∧Below W.heap.size W w'):=fun W=>by
       have:=fill_any 0#8 (n:=16) (by omega) W
       rw[←HTB.out.2.1] at this
       exact this
      have HLB:=Lib.hid b6
      go_wp2_with fail
      go_loopw [28,135] (fun _ i wi=>∃(j:Nat) (ws':List (Int × List (BitVec 8))),i= .int .i64 j∧j≤nr∧Hid (Mov [wm] w17 wi∧MWt wi wm ws'∧∀i:Int,getB ws' i=bif decide ((lb:Int)≤i)&&decide (i<(lb:Int)+(j:Int)) then some (bif xt then TZ else TB) else getB ws i)) (fun _ i _=>nr-(intOf i).toNat)
      case atStart=>
       refine⟨0,ws,rfl,by omega,Mov.refl _ _,MW17.out,fun i=> ?_⟩
       have:(decide ((lb:Int)≤i)&&decide (i<(lb:Int)+((0:Nat):Int)))=false:=by
        rw[Bool.and_eq_false_iff];simp only[decide_eq_false_iff_not];omega
       rw[this];rfl
      case round=>
       obtain⟨j,ws',rfl,hj,hI⟩:=hrel
       by_cases hjl:j<nr
       ·have hj0:(0:Int)≤(j:Int):=by omega
        have hj1:(j:Int)<(nr:Int):=by omega
        have B18:=Lib.hid (B17.out.mov hI.out.1 (by simp;have:=HNX.out;omega))
        have x3:wr.cell? ⟨xg,3,none⟩=some (.int .u8 bn):=Cells.cell B18.out 3
        have NX:∀(V:List (BitVec 8)) (us:List (Int × List (BitVec 8))),(V=bif xt then TZ else TB)→(∀i:Int,getB us i=if i=(lb:Int)+(j:Int) then some V else getB ws' i)→Hid (∀i:Int,getB us i=bif decide ((lb:Int)≤i)&&decide (i<(lb:Int)+((j+1:Nat):Int)) then some (bif xt then TZ else TB) else getB ws i):=by
         intro V us hV hu i
         rw[hu i,hI.out.2.2 i,hV]
         by_cases e:i=(lb:Int)+(j:Int)
         ·rw[if_pos e]
          have:(decide ((lb:Int)≤i)&&decide (i<(lb:Int)+((j+1:Nat):Int)))=true:=by
           rw[Bool.and_eq_true];simp only[decide_eq_true_eq];omega
          rw[this];rfl
         ·rw[if_neg e]
          have:decide (i<(lb:Int)+((j+1:Nat):Int))=decide (i<(lb:Int)+(j:Int)):=by
           rw[decide_eq_decide];omega
          rw[this]
        go_upto_region 34 with(first
         |(go_at_call 14;refine(HF wr).out.mono ?_;rintro e w18 ⟨FA,rfl,hO,hb⟩
           have hstr:=run_str (Wire.gave_row hO HTB.out.2.2.1).1
           obtain⟨w19,hput,hM19,hmv19,-⟩:=putWt (hI.out.2.1.below hb) ((lb:Int)+(j:Int)) TB
           have MV18:=Lib.hid ((hI.out.1.trans (Mov.of_below [wm] hb) (fun _ h=> .inl h)).trans hmv19 (fun _ h=> .inl h))
           have M19:=Lib.hid hM19
           have B19:=Lib.hid ((Cells.below B18.out hb).mov hmv19 (by simp;have:=HNX.out;omega))
           have x4:=Cells.cell B19.out 4
           clear hM19 hmv19 hb hO))
        clear hput hstr x3
        have HWK:=Lib.hid (NX)
        clear NX
        rcases xt
        ·go_wp2_with fail
         go_roundw
         case rel=>exact⟨j+1,_,by go_num,by omega,MV18.out,M19.out,(HWK.out TB _ rfl (fun i=>by rw[GM.get_set])).out⟩
         case measure=>simp[intOf];omega
        ·go_wp2_with (first
           |(go_at_call 14;refine(HF0 w19).out.mono ?_;rintro e w20 ⟨FA2,rfl,hO,hb⟩
             have hstr:=run_str (Wire.gave_row hO HTB.out.2.2.2).1
             obtain⟨w21,hput,hM21,hmv21,-⟩:=putWt (M19.out.below hb) ((lb:Int)+(j:Int)) TZ
             have MV21:=Lib.hid ((MV18.out.trans (Mov.of_below [wm] hb) (fun _ h=> .inl h)).trans hmv21 (fun _ h=> .inl h))
             have M21:=Lib.hid hM21
             clear hM21 hmv21 hb hO))
         clear hput hstr
         go_roundw
         case rel=>exact⟨j+1,_,by go_num,by omega,MV21.out,M21.out,(HWK.out TZ _ rfl (fun i=>by rw[GM.get_set,GM.get_set];split<;>rfl)).out⟩
         case measure=>simp[intOf];omega
       ·obtain rfl:j=nr:=by omega
        have HW:=hI.out
        have hn1:=W8.out.2.2.1
        have hn2:=W8.out.2.2.2
        have S18:Hid (St w _ n (k+1) g4 g7 pm wm X14 (L++ [(z,v.r)]) (setB ks (z:Int) Y12) ws'):=S15.out.next a6 W8.out.1 HFT.out X15.out.1 X15.out.2.1 X15.out.2.2.1 X15.out.2.2.2 hqq.out BT.out E16.out MV17.out M17.out (hY12.out.1) (hY12.out.2) HW.1 HW.2.1 (fun i=>by
         rw[HW.2.2 i,W8.out.2.1,HTB.out.1,HTB.out.2.1]
         unfold covB
         rw[hn1,hn2])
        clear HW hn1 hn2
        go_wp2_with fail
        go_roundw
        case rel=>exact⟨k+1,X14,L++ [(z,v.r)],setB ks (z:Int) Y12,ws',by go_num,by omega,S18⟩
        case measure=>simp[intOf];omega
  ·obtain rfl:k=m:=by omega
   have m0:=Cells.cell hS.out.c7 0
   have m1:=Cells.cell hS.out.c7 1
   have m2:=Cells.cell hS.out.c7 2
   have m3:=Cells.cell hS.out.c7 3
   have p0:=Cells.cell hS.out.c4 0
   have p1:=Cells.cell hS.out.c4 1
   have p2:=Cells.cell hS.out.c4 2
   have p3:=Cells.cell hS.out.c4 3
   have f0:=Cells.frozen hS.out.c4 0
   have f1:=Cells.frozen hS.out.c4 1
   have f2:=Cells.frozen hS.out.c4 2
   have f3:=Cells.frozen hS.out.c4 3
   go_wp2_with fail
   have bt:=Pk.mov4 wr g4 (.int .i64 X.cap) (.int .i64 X.op) (.int .i64 X.ac) (.slice X.A X.n X.c)
   have qs:=Pk.set4 hS.out.c4 (.int .i64 X.cap) (.int .i64 X.op) (.int .i64 X.ac) (.slice X.A X.n X.c)
   unfold Pk.set4W at bt qs
   have hl:=hS.out.low
   have hsz:=hS.out.lw.size
   refine bodyPost_ret_by (Ext.results_c2 rfl _ _ g4 _ _ _ _ rfl qs Tryz.underlying26 rfl (by kernel_rfl)) rfl ?_
   exact⟨X,L,wm,ws,rfl,Lib.hid ⟨devAt_mov hS.out.dev bt (fun g hg=>hS.out.ax g (by rw[List.mem_singleton] at hg;simp[hg])),hS.out.px,hS.out.ok,hS.out.lg,hS.out.mw.mov bt (by simp;omega),hS.out.wt,hS.out.lw.trans (bt.below hsz (by intro x hx;rw[List.mem_singleton] at hx;omega)),by omega⟩⟩
end Rp
end
section
open Go.RowKit Mem Box Zns
namespace Rp
open Seg (Hdr Rc Rv fits nums hnums nn frame headX recX frames check)
open Pk (zoneOf placeR flen)
open Zon (Zn Zv B8)
open Vm (exR Offd)
open Ext (MayX Ok tell blk has lookP rangeB rangeB_iff extB blkB RowL OwnsL)
theorem cov_iff {r:Rc} {k:Int}:covB r k=true↔r.lba≤k∧k<r.lba+r.n:=by unfold covB;rw[Bool.and_eq_true,decide_eq_true_eq,decide_eq_true_eq]
theorem wantL_none {k:Int}:∀ {L:Lg},(∀x∈L,covB x.2 k=false)→wantL L k=none:=by
 intro L h
 have key:∀(L:Lg) (o:Option (List B8)),(∀x∈L,covB x.2 k=false)→L.foldl (fun o x=>bif covB x.2 k then some (txR x.2) else o) o=o:=by
  intro L
  induction L with
  |nil=>intro o _;rfl
  |cons a t ih=>
   intro o h
   rw[List.foldl_cons,h a (by simp)]
   exact ih o fun x hx=>h x (by simp[hx])
 exact key L none h
theorem wantL_some {k:Int} {n:Nat}:∀ {L:Lg},L.length≤n→L.Pairwise (fun x y=>x.2.ver<y.2.ver)→∀x∈L,covB x.2 k=true→(∀y∈L,covB y.2 k=true→y.2.ver≤x.2.ver)→wantL L k=some (txR x.2):=by
 induction n with
 |zero=>
  intro L hl _ x hx
  rw[List.eq_nil_of_length_eq_zero (by omega:L.length=0)] at hx
  cases hx
 |succ n ih=>
  intro L hl hp x hx hc hm
  rcases List.eq_nil_or_concat L with rfl|⟨L',a,rfl⟩
  ·cases hx
  ·rw[List.concat_eq_append] at*
   obtain⟨h1,-,h3⟩:=List.pairwise_append.1 hp
   rw[show L'++ [a]=L'++ [(a.1,a.2)] from rfl,wantL_snoc]
   rcases ha:covB a.2 k
   ·rcases List.mem_append.1 hx with q|q
    ·exact ih (by rw[List.length_append] at hl;simp at hl;omega) h1 x q hc fun y hy=>hm y (by simp[hy])
    ·rw[List.mem_singleton.1 q,ha] at hc;cases hc
   ·have hle:=hm a (by simp) ha
    rcases List.mem_append.1 hx with q|q
    ·have:=h3 x q a (by simp);omega
    ·rw[List.mem_singleton.1 q];rfl
def W16 (L:Lg) (k:Int):List B8:=(wantL L k).getD (List.replicate 16 0#8)
theorem txR_len {r:Rc} (h:WR r.ver r):(txR r).length=16:=by
 unfold txR
 rcases h.is with⟨hk,b,hd⟩|⟨hk,hd⟩
 ·rw[hk,hd]
  show((List.replicate (16*r.n.toNat) b).take 16).length=16
  rw[List.length_take,List.length_replicate]
  have:=h.n1;omega
 ·rw[hk];rfl
theorem blk_tx {r:Rc} (h:WR r.ver r) {z:Nat} {o k:Int} {D:List B8} (dat:Int→List B8) (hd:dat (z:Int)=D) (ho:0≤o) (hD:(D.drop o.toNat).take r.data.length=r.data) (hc:r.lba≤k∧k<r.lba+r.n):blkB dat (blk (exR r (z:Int) o) k)=txR r:=by
 have hn:=h.n1
 rcases h.is with⟨hk,b,hdd⟩|⟨hk,hdd⟩
 ·have e:exR r (z:Int) o=⟨r.lba,r.n,r.ver,(z:Int),o⟩:=by unfold exR;rw[hk];rfl
  rw[e]
  obtain⟨i,hi⟩:∃i:Nat,k=r.lba+(i:Int):=⟨(k-r.lba).toNat,by omega⟩
  have hz:¬(z:Int)= -1:=by omega
  show(if(z:Int)= -1 then List.replicate 16 0#8 else((dat (z:Int)).drop (if(z:Int)= -1 then(0:Int) else o+16*(k-r.lba)).toNat).take 16)=txR r
  rw[if_neg hz,if_neg hz,hd]
  have ht:(o+16*(k-r.lba)).toNat=o.toNat+16*i:=by omega
  have hl:r.data.length=16*r.n.toNat:=by rw[hdd,List.length_replicate]
  have e1:(D.drop (o.toNat+16*i)).take 16=(r.data.drop (16*i)).take 16:=by
   have:r.data=(D.drop o.toNat).take (16*r.n.toNat):=by rw[←hl];exact hD.symm
   conv=>rhs;rw[this]
   rw[List.drop_take,List.take_take,List.drop_drop,Nat.min_eq_left (by omega)]
  rw[ht,e1]
  unfold txR
  rw[hk,hdd]
  show((List.replicate (16*r.n.toNat) b).drop (16*i)).take 16=(List.replicate (16*r.n.toNat) b).take 16
  rw[List.drop_replicate,List.take_replicate,List.take_replicate,Nat.min_eq_left (by omega),Nat.min_eq_left (by omega)]
 ·have e:exR r (z:Int) o=⟨r.lba,r.n,r.ver,-1,0⟩:=by unfold exR;rw[hk];rfl
  rw[e]
  unfold txR
  rw[hk];rfl
theorem exR_has {r:Rc} {z o k:Int}:has (exR r z o) k↔covB r k=true:=by
 rw[cov_iff]
 unfold exR has Ext.Ex.en
 cases (r.kind==2)<;>exact Iff.rfl
theorem exR_ver (r:Rc) (z o:Int):(exR r z o).ver=r.ver:=by unfold exR;cases (r.kind==2)<;>rfl
section
variable {X:Dx} {n m:Nat} {L:Lg} {w:World} {mp:List Ext.Ex}
theorem dat_of (hX:DevAt w X) (hp:X.p=dvOf n L) {z:Nat} (hz:z<n):∃v,X.xs[z]? =some v∧v.z.data=datZ z (rsOf L z)∧datX X (z:Int)=datZ z (rsOf L z):=by
 have e1:X.p.zs[z]? =some (zoneOf 4000 0 (datZ z (rsOf L z))):=by rw[hp];exact zsOf_get L hz
 have e2:X.p.zs[z]? =X.xs[z]?.map Zv.z:=by show(X.xs.map Zv.z)[z]? =_;rw[List.getElem?_map]
 rw[e2] at e1
 obtain⟨v,hv,hzz⟩:=Option.map_eq_some_iff.1 e1
 refine⟨v,hv,by rw[hzz];rfl,?_⟩
 show(match X.xs[((z:Nat):Int).toNat]? with|some v=>v.z.data|none=> [])=_
 rw[Int.toNat_natCast,hv]
 show v.z.data=_
 rw[hzz];rfl
structure MapOk (X:Dx) (L:Lg) (mp:List Ext.Ex):Prop where
 ok:Ok 0 mp
 few:mp.length≤20000
 inb:∀j b,tell mp j=some b→InB X b
 told:∀k:Int,0≤k→blkB (datX X) ((tell mp k).getD (0,-1,0))=W16 L k∧(tell mp k).isSome=(wantL L k).isSome
theorem map_ok (hX:DevAt w X) (hp:X.p=dvOf n L) (hn:n≤4) (hl:LgOk n m L) (hm:m≤40) (ho:Offd ((trAll (fsOf n L) (List.range n)).map exT) mp):MapOk X L mp:=by
 have hg:=good_of hl hn
 have hmay:∀x∈(trAll (fsOf n L) (List.range n)).map exT,MayX x:=fun x hx=>by
  obtain⟨t,ht,rfl⟩:=List.mem_map.1 hx
  exact(hg t ht).may
 have hok:=offd_ok hmay ho
 have hall:∀k:Int,0≤k→(tell mp k=none∧wantL L k=none)∨∃t∈trAll (fsOf n L) (List.range n),covB t.1 k=true∧tell mp k=some (blk (exT t) k)∧wantL L k=some (txR t.1):=by
  intro k hk
  rcases offd_tell hmay ho hk with⟨h1,h2⟩|⟨x,hx,h1,h2,h3⟩
  ·refine .inl ⟨h1,wantL_none fun y hy=> ?_⟩
   obtain⟨t,ht,h4,h5⟩:=(mem_tr hl).1 hy
   rcases hc:covB y.2 k
   ·rfl
   ·exact absurd (exR_has.2 (by rw[h5];exact hc)) (h2 (exT t) (List.mem_map.2 ⟨t,ht,rfl⟩))
  ·obtain⟨t,ht,rfl⟩:=List.mem_map.1 hx
   have hc:covB t.1 k=true:=exR_has.1 h1
   refine .inr ⟨t,ht,hc,h2,?_⟩
   have hmem:(t.2.1.toNat,t.1)∈L:=(mem_tr hl).2 ⟨t,ht,by obtain⟨z,-,-,-,h5,-⟩:=hl.tr ht;show t.2.1=((t.2.1.toNat:Nat):Int);omega,rfl⟩
   refine wantL_some (x:=(t.2.1.toNat,t.1)) (Nat.le_refl _) hl.rise hmem hc fun y hy hcy=> ?_
   obtain⟨u,hu,h4,h5⟩:=(mem_tr hl).1 hy
   have:=h3 (exT u) (List.mem_map.2 ⟨u,hu,rfl⟩) (exR_has.2 (by rw[h5];exact hcy))
   unfold exT at this
   rw[exR_ver,exR_ver,h5] at this
   exact this
 refine⟨hok,?_,fun j b hb=> ?_,fun k hk=> ?_⟩
 ·obtain⟨r,hpm,hv,rfl⟩:=ho
  have h2:=Vm.offd_may hmay hpm
  have h3:=Vm.put_none_len h2.1
  rw[List.length_map,h2.2,List.length_map,trAll_len hl] at h3
  have h4:=hl.few
  have h5:L.length*L.length≤40*40:=Nat.mul_le_mul (by omega) (by omega)
  omega
 ·have hj:0≤j:=by
    rcases Int.lt_or_le j 0 with q|q
    ·rw[Ext.tell_low hok q] at hb;cases hb
    ·exact q
  rcases hall j hj with⟨h1,-⟩|⟨t,ht,hc,h2,-⟩
  ·rw[h1] at hb;cases hb
  ·rw[h2] at hb
   injection hb with hb
   obtain⟨z,hz,hr,hw,h3,h4,h5,h6⟩:=hl.tr ht
   obtain⟨v,hv,hvd,-⟩:=dat_of hX hp hz
   have hcc:=cov_iff.1 hc
   rcases hw.is with⟨hk,bb,hd⟩|⟨hk,hd⟩
   ·have e:exT t=⟨t.1.lba,t.1.n,t.1.ver,(z:Int),t.2.2⟩:=by unfold exT exR;rw[hk,h3];rfl
    rw[←hb,e]
    refine .inr ⟨z,v,rfl,hv,?_⟩
    have hlen:t.1.data.length=16*t.1.n.toNat:=by rw[hd,List.length_replicate]
    show(if(z:Int)= -1 then(0:Int) else t.2.2+16*(j-t.1.lba))+16≤_
    rw[if_neg (by omega),hvd]
    have:=hw.n1
    omega
   ·have e:exT t=⟨t.1.lba,t.1.n,t.1.ver,-1,0⟩:=by unfold exT exR;rw[hk];rfl
    rw[←hb,e]
    exact .inl rfl
 ·rcases hall k hk with⟨h1,h2⟩|⟨t,ht,hc,h2,h3⟩
  ·unfold W16
   rw[h1,h2]
   exact⟨rfl,rfl⟩
  ·obtain⟨z,hz,hr,hw,h4,h5,h6,h7⟩:=hl.tr ht
   obtain⟨v,hv,hvd,hdx⟩:=dat_of hX hp hz
   unfold W16
   rw[h2,h3]
   refine⟨?_,rfl⟩
   show blkB (datX X) (blk (exR t.1 t.2.1 t.2.2) k)=txR t.1
   rw[h4]
   exact blk_tx hw (datX X) hdx h5 h7 (cov_iff.1 hc)
end
end Rp
end
section
open Go.RowKit Mem Box Zns
namespace Rp
open Zon (Zn Zv B8)
open Vm (exR Offd)
open Ext (MayX Ok tell blk has lookP rangeB rangeB_iff extB blkB RowL OwnsL)
section
variable {X:Dx} {n m:Nat} {L:Lg} {w:World}
theorem map_run (hX:DevAt w X) (hp:X.p=dvOf n L) (hok:okD (dvOf n L)=true) (hn:n≤4) (hl:LgOk n m L) (hm:m≤40):
  Calls Tryz.prog 10 #[.agg #[.int .i64 X.cap,.int .i64 X.op,.int .i64 X.ac,.slice X.A X.n X.c],.slice none 0 0] w fun e w'=>∃(B:Option Addr) (q d:Nat) (mp:List Ext.Ex),e= .returned (.tuple #[.slice B q d,.int .i64 0])∧Hid (RowL w' B q d mp∧MapOk X L mp∧q≤20000)∧Below w.heap.size w w':=by
 have hD:=dev_of hl hn hX hp hok
 have hXn:X.n=n:=by rw[←hX.plen,hp];exact zsOf_len n L
 refine(map_all hD (by rw[hXn];exact good_of hl hn) (by rw[hXn,trAll_len hl];have:=hl.few;omega)).mono ?_
 rw[hXn]
 rintro e w' ⟨mp,hof,⟨B,q,d,rfl,hO⟩,hb⟩
 have hM:=map_ok hX hp hn hl hm hof
 have hq:q=mp.length:=hO.2.symm
 exact⟨B,q,d,mp,rfl,⟨OwnsL.row hO (by have:=hM.few;omega),hM,by have:=hM.few;omega⟩,hb⟩
def blocksW (L:Lg) (a:Int) (k:Nat):List B8:=(List.range k).flatMap fun(i:Nat)=>W16 L (a+(i:Int))
theorem W16_len (hl:LgOk n m L) (k:Int):(W16 L k).length=16:=by
 unfold W16
 have key:∀(L:Lg) (o:Option (List B8)),(∀x∈L,(txR x.2).length=16)→(∀l,o=some l→l.length=16)→∀l,L.foldl (fun o x=>bif covB x.2 k then some (txR x.2) else o) o=some l→l.length=16:=by
  intro L
  induction L with
  |nil=>intro o _ h l e;exact h l e
  |cons a t ih=>
   intro o h1 h2 l e
   rw[List.foldl_cons] at e
   refine ih _ (fun x hx=>h1 x (by simp[hx])) (fun l' e'=> ?_) l e
   cases hc:covB a.2 k<;>rw[hc] at e'
   ·exact h2 l' e'
   ·injection e' with e';rw[←e'];exact h1 a (by simp)
 rcases hw:wantL L k with _|l
 ·simp
 ·exact key L none (fun x hx=>txR_len (hl.at_ x hx).2.1) (by simp) l hw
theorem blocksW_len (hl:LgOk n m L) (a:Int) (k:Nat):(blocksW L a k).length=16*k:=by
 unfold blocksW
 induction k with
 |zero=>rfl
 |succ k ih=>rw[List.range_succ,List.flatMap_append,List.length_append,ih];simp[W16_len hl];omega
theorem blocksW_at (hl:LgOk n m L) (a:Int):∀(k:Nat) {i:Nat},i<k→((blocksW L a k).drop (16*i)).take 16=W16 L (a+(i:Int))
 |0,i,h=>by omega
 |k+1,i,h=>by
  have e:blocksW L a (k+1)=blocksW L a k++W16 L (a+(k:Int)):=by unfold blocksW;rw[List.range_succ,List.flatMap_append];simp
  have hk:=blocksW_len hl a k
  rw[e]
  by_cases hi:i<k
  ·rw[List.drop_append_of_le_length (by omega),List.take_append_of_le_length (by rw[List.length_drop];omega)]
   exact blocksW_at hl a k hi
  ·obtain rfl:i=k:=by omega
   rw[List.drop_append,List.drop_eq_nil_of_le (by omega),List.nil_append,hk,Nat.sub_self,List.drop_zero]
   exact List.take_of_length_le (by rw[W16_len hl];omega)
theorem blocksW_one (L:Lg) (a:Int):blocksW L a 1=W16 L a:=by
 unfold blocksW
 rw[show List.range 1= [0] from rfl,List.flatMap_cons,List.flatMap_nil,List.append_nil,show a+((0:Nat):Int)=a by omega]
theorem blocksW_far (hl:LgOk n m L) {a:Int} (ha:60≤a):∀k:Nat,blocksW L a k=List.replicate (16*k) 0#8
 |0=>rfl
 |k+1=>by
  have e:blocksW L a (k+1)=blocksW L a k++W16 L (a+(k:Int)):=by unfold blocksW;rw[List.range_succ,List.flatMap_append];simp
  have hw:W16 L (a+(k:Int))=List.replicate 16 0#8:=by
   unfold W16
   rw[wantL_none fun x hx=> ?_]
   ·rfl
   ·have h:=(hl.at_ x hx).2.1
    have h1:=h.l1
    have h2:=h.n5
    rcases hc:covB x.2 (a+(k:Int))
    ·rfl
    ·have:=cov_iff.1 hc;omega
  rw[e,blocksW_far hl ha k,hw,List.replicate_append_replicate]
  congr 1
theorem bytes_run {mp:List Ext.Ex} (hX:DevAt w X) (hp:X.p=dvOf n L) (hok:okD (dvOf n L)=true) (hl:LgOk n m L) (hM:MapOk X L mp) {A:Option Addr} {q c:Nat} (hA:RowL w A q c mp) {a:Int} (ha:0≤a) (ha2:a≤2000000000) {k:Nat} (hk:1≤k) (hk2:k≤4000):
  Calls Tryz.prog 13 #[.agg #[.int .i64 X.cap,.int .i64 X.op,.int .i64 X.ac,.slice X.A X.n X.c],.slice A q c,.int .i64 a,.int .i64 (k:Int)] w fun e w'=>∃(B:Option Addr) (d:Nat),e= .returned (.tuple #[.slice B (16*k) d,.int .i64 0])∧Hid (Row cb w' B (16*k) d (blocksW L a k))∧Below w.heap.size w w':=by
 have hr:rangeB a (k:Int)=true:=rangeB_iff.2 ⟨ha,by omega,by omega⟩
 have hcap:∀v∈X.xs,v.z.data.length≤65536:=by
  intro v hv
  have h0:=bounds_parts.1 ((okD_dx hX).1 (by rw[hp];exact hok)).1
  have h1:=Zon.ok_parts (((okD_dx hX).1 (by rw[hp];exact hok)).2.1 v hv)
  have h2:v.z.len=(v.z.data.length:Int):=rfl
  omega
 have hq:q≤100000:=by have h1:=hA.len;have h2:=hM.few;omega
 have hf:=Ext.look_full hM.ok hr
 have e:(lookP mp a (k:Int)).flatMap (extB (datX X))=blocksW L a k:=by
  rw[Ext.full_blocks (datX X) _ _ _ hf]
  unfold blocksW
  rw[show(a+(k:Int)-a).toNat=k by omega]
  refine Ext.fm_congr fun i hi=> ?_
  have hik:=List.mem_range.1 hi
  rw[Ext.look_tell hM.ok hr (by omega) (by omega)]
  exact(hM.told _ (by omega)).1
 have:=bytes_in hX hcap hA hM.ok hq hr (by omega) (inx_look hM.ok hr hM.inb)
 rw[e] at this
 refine this.mono ?_
 rintro e w' ⟨B,j,d,rfl,hO,hb⟩
 have hlen:=blocksW_len hl a k
 obtain⟨hrow,hj⟩:=Wire.gave_row hO (by rw[hlen];omega)
 have hj2:j=16*k:=by rw[hj,hlen]
 subst hj2
 exact⟨B,d,rfl,hrow,hb⟩
end
end Rp
end
section
open Go.ChangeShapes Go.WideShapes Go.ChangeAt Go.RowKit Mem Box
namespace Args
open Rp
variable {H:Type} {enc:TypeId × Value→H} {W:World}
theorem raw_write {fuel:Nat} {cs:List Value} {x:DataW H × List MemPlace} (hf:DataW.trod enc Tryz.prog W 0 (fun _=>true) true fuel 44 cs=some x) (hl:cs.length=5):
  ∃v:Wr,cs=cellsW v∧True:=by
 have hu:=Tryz.underlying44
 match cs,hl with
 | [c0,c1,c2,c3,c4],_=>
   obtain⟨xs,n,_,hx,_,hlen,hg⟩:=DataW.trod_struct hu hf
   have hxl:xs.length=5:=hlen
   match xs,hxl with
   | [y0,y1,y2,y3,y4],_=>
     have o3:Tryz.prog.cellsOf 3=1:=by kernel_rfl
     have o4:Tryz.prog.cellsOf 4=1:=by kernel_rfl
     have o5:Tryz.prog.cellsOf 5=1:=by kernel_rfl
     have g0:=hg 0 _ rfl
     have g1:=hg 1 _ rfl
     have g2:=hg 2 _ rfl
     have g3:=hg 3 _ rfl
     have g4:=hg 4 _ rfl
     simp[o3,o4,o5] at g0 g1 g2 g3 g4
     obtain⟨z,hz1,-,wz⟩:=DataW.trod_int Tryz.underlying3 g0
     obtain⟨l,hl1,-,wl⟩:=DataW.trod_int Tryz.underlying3 g1
     obtain⟨k,hk1,-,wk⟩:=DataW.trod_int Tryz.underlying3 g2
     obtain⟨b,hb1,-,wb⟩:=DataW.trod_int Tryz.underlying5 g3
     obtain⟨t,ht1,-⟩:=DataW.trod_bool Tryz.underlying4 g4
     simp only[List.cons.injEq,and_true] at hz1 hl1 hk1 hb1 ht1
     subst hz1 hl1 hk1 hb1 ht1
     have hb2:0≤b∧b≤255:=by
      simp[Lit.wf,IntKind.min,IntKind.max,IntKind.signed,IntKind.bits] at wb
      omega
     refine⟨⟨z,l,k,BitVec.ofNat 8 b.toNat,t⟩,?_,trivial⟩
     have e:cb (BitVec.ofNat 8 b.toNat)= .int .u8 b:=by
      show Value.int .u8 (((BitVec.ofNat 8 b.toNat).toNat:Nat):Int)= .int .u8 b
      congr 1
      rw[BitVec.toNat_ofNat]
      omega
     show _= [_,_,_,cb (BitVec.ofNat 8 b.toNat),_]
     rw[e]
theorem open_writes {v:Value} {d:DataW H} {p:List MemPlace} {base:Nat} (hok:Value.okWide Tryz.prog W .any base 22 v) (h:DataW.Trod enc Tryz.prog W 0 (fun _=>true) true 22 v d p)
  (hs:∀q∈d.weights Tryz.prog 22,q≤reachBytes):∃A n c xs,v= .slice A n c∧RowS cellsW 5 W A n c xs:=by
 obtain⟨A,n,c,xs,h1,h2,-⟩:=open_rowS (cells:=cellsW) (k:=5) (bytes:=32) (p:=fun _=>True) Tryz.underlying22 (by kernel_rfl) (by kernel_rfl) (by omega) (by omega) (fun _ _ _ hf hl _=>raw_write hf hl) hok h hs
 exact⟨A,n,c,xs,h1,h2⟩
end Args
end
section
open Go.RowKit Mem Box Zns
namespace Rp
open Ext (cnt tell Ok manyE)
open GM (getB KN)
theorem cnt_keys {V:Type} {N:Nat}:∀ {ks:List (Int × V)},KN ks→(∀k∈ks,0≤k.1∧k.1<(N:Int))→cnt (fun k=>(getB ks k).isSome) N=ks.length
 | [],_,_=>by
   rw[Ext.cnt_congr (q:=fun _=>false) (fun k _=>rfl)]
   exact Ext.cnt_zero N
 |a::r,hk,hb=>by
  have h1:=hb a (by simp)
  have e:cnt (fun k=>(getB (a::r) k).isSome) N=cnt (fun k=>decide (a.1≤k∧k<a.1+1)||(getB r k).isSome) N:=by
   refine Ext.cnt_congr fun k _=> ?_
   show(getB (a::r) (k:Int)).isSome=_
   rw[getB]
   by_cases q:a.1=(k:Int)
   ·rw[if_pos q,decide_eq_true (by omega)];rfl
   ·rw[if_neg q,decide_eq_false (by omega),Bool.false_or]
  have hd:∀k:Nat,k<N→((decide (a.1≤(k:Int)∧(k:Int)<a.1+1))&&(getB r (k:Int)).isSome)=false:=fun k _=>by
   by_cases q:a.1≤(k:Int)∧(k:Int)<a.1+1
   ·have:(k:Int)=a.1:=by omega
    rw[this,hk.1];simp
   ·rw[decide_eq_false q];rfl
  rw[e,Ext.cnt_or hd,cnt_keys hk.2 (fun k hk'=>hb k (by simp[hk'])),List.length_cons]
  have:=Ext.cnt_range (a:=a.1) (b:=a.1+1) (N:=N) h1.1 (by omega) (by omega)
  omega
section
variable {X:Dx} {n m:Nat} {L:Lg} {w:World} {mp:List Ext.Ex} {ws:List (Int × List (BitVec 8))}
theorem want_cov:∀ {L:Lg} {k:Int},wantL L k≠none→∃x∈L,covB x.2 k=true:=by
 intro L k h
 rcases Classical.em (∃x∈L,covB x.2 k=true) with q|q
 ·exact q
 ·exact absurd (wantL_none fun x hx=>by
    rcases hc:covB x.2 k
    ·rfl
    ·exact absurd ⟨x,hx,hc⟩ q) h
theorem many_keys (hM:MapOk X L mp) (hl:LgOk n m L) (hw:∀j,getB ws j=wantL L j) (hk:KN ws):manyE mp=(ws.length:Int):=by
 have hin:∀k∈ws,0≤k.1∧k.1<((60:Nat):Int):=fun k hk'=>by
  have h1:=GM.mem_get hk hk'
  rw[hw] at h1
  obtain⟨x,hx,hc⟩:=want_cov (L:=L) (k:=k.1) (by rw[h1];simp)
  have h2:=(hl.at_ x hx).2.1
  have h3:=cov_iff.1 hc
  have:=h2.l0;have:=h2.l1;have:=h2.n5
  omega
 have hend:Ext.Ends ((60:Nat):Int) mp:=fun x hx=>by
  have hmx:=hM.ok.may x hx
  have hlo:=hM.ok.from x hx
  have he:=Ext.en_lt hmx
  have ht:=tell_mem (j:=x.en-1) hM.ok x hx (by unfold Ext.has;omega)
  have hs:=(hM.told (x.en-1) (by omega)).2
  rw[ht] at hs
  obtain⟨y,hy,hc⟩:=want_cov (L:=L) (k:=x.en-1) (by intro e;rw[e] at hs;cases hs)
  have h2:=(hl.at_ y hy).2.1
  have h3:=cov_iff.1 hc
  have:=h2.l0;have:=h2.l1;have:=h2.n5
  omega
 rw[Ext.many_cnt hM.ok hend,←cnt_keys hk hin]
 congr 1
 refine Ext.cnt_congr fun k _=> ?_
 show(tell mp (k:Int)).isSome=(getB ws (k:Int)).isSome
 rw[(hM.told (k:Int) (by omega)).2,hw]
end
end Rp
end
section
open Go.RowKit Mem Box Zns
namespace Rp
open Seg (Hdr Rc Rv)
open Zon (Zn Zv B8 cellsZ)
theorem run_used (b:Bool) (x y z:Int) (l a:Value) (u:Int) (w:World) (hl:∃A n c,l= .slice A n c) (ha:∃A n c,a= .slice A n c):(Instr.field 71 (.agg #[.bool b,.int .i64 x,.int .i64 y,.int .i64 z,l,a,.int .i64 u]) 4).run Tryz.prog w= .ok (.int .i64 u) w:=by
 obtain⟨A,n,c,rfl⟩:=hl
 obtain⟨A2,n2,c2,rfl⟩:=ha
 have q:=Tryz.underlying71
 have q4:=Tryz.underlying3
 have a4:=Tryz.isAgg3
 have z0:=Tryz.sizeOf4
 have z1:=Tryz.sizeOf68
 have z2:=Tryz.sizeOf69
 have z3:=Tryz.sizeOf34
 have z4:=Tryz.sizeOf3
 unfold Instr.field
 go_simp
 simp[asAgg]
theorem torn_none {X:Dx} {fs:List Fd} {w:World} (h:Dev w X fs) (hw:∀(k:Nat) (v:Zv) (f:Fd),X.xs[k]? =some v→fs[k]? =some f→f.used=v.z.data.length):
  Calls Tryz.prog 11 #[.agg #[.int .i64 X.cap,.int .i64 X.op,.int .i64 X.ac,.slice X.A X.n X.c]] w fun e w'=>e= .returned (.slice none 0 0)∧Below w.heap.size w w':=by
 have HA:=fun W (hW:Below w.heap.size w W)=>Lib.hid (all_any (h.at_.below hW) h.ok)
 have HD:=Lib.hid h
 have hn:=h.few
 have HW:=Lib.hid hw
 have L1:=Lib.hid ((Below.refl w.heap.size w).alloc (Nat.le_refl _) (.cells #[.int .i64 X.cap,.int .i64 X.op,.int .i64 X.ac,.slice X.A X.n X.c] 26))
 have B1:=Lib.hid (box_new w X)
 clear h hw
 go_enter Tryz.func11,Tryz.ntmps11
 go_upto_region 1 with fail
 generalize w.alloc (.cells #[.int .i64 X.cap,.int .i64 X.op,.int .i64 X.ac,.slice X.A X.n X.c] 26)=w1 at*
 have m0:w1.cell? ⟨w.heap.size,0,none⟩=some (.int .i64 X.cap):=Cells.cell B1.out 0
 have m1:w1.cell? ⟨w.heap.size,1,none⟩=some (.int .i64 X.op):=Cells.cell B1.out 1
 have m2:w1.cell? ⟨w.heap.size,2,none⟩=some (.int .i64 X.ac):=Cells.cell B1.out 2
 have m3:w1.cell? ⟨w.heap.size,3,none⟩=some (.slice X.A X.n X.c):=Cells.cell B1.out 3
 go_wp2_with (go_at_call 32;refine(HA w1 L1.out).out.mono ?_;rintro e w2 ⟨IA,IC,rfl,hO,hb⟩;have L2:=Lib.hid (L1.out.trans (hb.mono L1.out.size));have B2:=Lib.hid (Cells.below B1.out hb);have I2:=Lib.hid (Wire.gave_row hO (by rw[iota_len];omega)).1;clear hb hO)
 clear m0 m1 m2 m3
 go_loopw [3,5,6,10] (fun s _ _ i wr=>∃k:Nat,i= .int .i64 k∧s= .slice none 0 0∧k≤X.n∧Hid (Below w2.heap.size w2 wr)) (fun _ _ _ i _=>X.n-(intOf i).toNat)
 case atStart=>exact⟨0,rfl,rfl,by omega,Below.refl _ _⟩
 case round=>
  obtain⟨k,rfl,rfl,hkn,hH⟩:=hrel
  have LW:=Lib.hid (L2.out.trans (hH.out.mono L2.out.size))
  by_cases hlt:k<X.n
  ·have hk1:(k:Int)<(X.n:Int):=by omega
   have hk0:(0:Int)≤(k:Int):=by omega
   obtain⟨v,f,hv,hf,hhf,hrow,hcap⟩:=HD.out.zone hlt
   have hu:=HW.out k v f hv hf
   obtain⟨bi,oi,eI,ci'⟩:=(I2.out.below hH.out).cell (iota_get hlt)
   subst eI
   have ci2:wr.cell? ⟨bi,oi+k,none⟩=some (.int .i64 (k:Int)):=ci'
   obtain⟨b,o,hA,hb,hc⟩:=HD.out.at_.row.elem hv
   have c0:wr.cell? ⟨b,o+k*3,none⟩=some (.int .i64 v.z.st):=hc wr (LW.out.block b hb) 0 _ rfl
   have c1:wr.cell? ⟨b,o+k*3+1,none⟩=some (.int .i64 v.z.fc):=hc wr (LW.out.block b hb) 1 _ rfl
   have c2:wr.cell? ⟨b,o+k*3+2,none⟩=some (.slice v.D v.z.data.length v.c):=hc wr (LW.out.block b hb) 2 _ rfl
   have m3:wr.cell? ⟨w.heap.size,3,none⟩=some (.slice (some ⟨b,o,none⟩) X.n X.c):=by rw[←hA];exact Cells.cell (Cells.below B2.out hH.out) 3
   have HZ:=fun W (hW:Below w.heap.size w W)=>Lib.hid (zone_any (hrow.below hW) (by omega) hhf)
   have HU:=Lib.hid hu
   have H4:=Lib.hid (hH.out.alloc hH.out.size (.cells #[.int .i64 v.z.st,.int .i64 v.z.fc,.slice v.D v.z.data.length v.c] 46))
   have Z4:Hid (Cells (wr.alloc (.cells #[.int .i64 v.z.st,.int .i64 v.z.fc,.slice v.D v.z.data.length v.c] 46)) wr.heap.size 46 #[.int .i64 v.z.st,.int .i64 v.z.fc,.slice v.D v.z.data.length v.c]):=Cells.new _ _ _
   clear hv hf hhf hrow hcap hA hc hb ci' hu
   go_upto_region 6 with fail
   generalize wr.alloc (.cells #[.int .i64 v.z.st,.int .i64 v.z.fc,.slice v.D v.z.data.length v.c] 46)=w4 at*
   generalize wr.heap.size=zg at*
   clear c0 c1 c2 m3 ci2
   have H5:=Lib.hid H4.out.drew
   have Z5:Hid (Cells w4.drew zg 46 #[.int .i64 v.z.st,.int .i64 v.z.fc,.slice v.D v.z.data.length v.c]):=Z4.out
   have L5:=Lib.hid (L2.out.trans (H5.out.mono L2.out.size))
   have HZ5:=HZ w4.drew L5.out
   have HSW:Hid (∀W,Below w4.drew.heap.size w4.drew W→W.cell? ⟨zg,0,none⟩=some (.int .i64 v.z.st)∧W.cell? ⟨zg,1,none⟩=some (.int .i64 v.z.fc)∧W.cell? ⟨zg,2,none⟩=some (.slice v.D v.z.data.length v.c)):=fun W hW=>⟨Cells.cell (Cells.below Z5.out hW) 0,Cells.cell (Cells.below Z5.out hW) 1,Cells.cell (Cells.below Z5.out hW) 2⟩
   clear HZ H4 Z4
   refine wp_region_held_drew (S:=fun W=>W.cell? ⟨zg,0,none⟩=some (.int .i64 v.z.st)∧W.cell? ⟨zg,1,none⟩=some (.int .i64 v.z.fc)∧W.cell? ⟨zg,2,none⟩=some (.slice v.D v.z.data.length v.c)) (by kernel_rfl) (HSW.out _ (Below.refl _ _)) (fun hHeld=> ?_)
   generalize w4.drew=w5 at*
   refine Reg.tk 0 rfl ?_
   refine Reg.tk 3 rfl ?_
   refine Reg.tk 4 rfl ?_
   refine Reg.tk 5 rfl ?_
   refine Reg.step 1 rfl (by kernel_rfl) (by rfl) (fun K hK=> ?_)
   go_simp
   refine HZ5.out.mono ?_
   rintro e w6 ⟨zs,LA,LC,AA,AC,rfl,-,hb⟩
   have H6:=Lib.hid (H5.out.trans (hb.mono H5.out.size))
   refine hK.out _ _ (HSW.out _ hb) (fun hHeld2=> ?_)
   clear hK K hHeld hb HZ5
   have hfd:=fun W=>run_used f.hd f.h.host f.h.epoch f.h.seq (.slice LA f.rs.length LC) (.slice AA f.rs.length AC) (v.z.data.length:Int) W ⟨_,_,_,rfl⟩ ⟨_,_,_,rfl⟩
   (try simp only[Act.put,List.setIfInBounds_toArray,List.set_cons_zero,List.set_cons_succ])
   have hue:(f.used:Int)=(v.z.data.length:Int):=by rw[HU.out]
   generalize v.z.data.length=dn at*
   generalize(f.used:Int)=fu at*
   subst hue
   refine Reg.tk 2 rfl ?_
   refine Reg.tk 6 rfl ?_
   refine wpAnyH_done (by kernel_rfl) ?_ _
   clear hHeld2
   go_wp2_with fail
   go_roundw
   case rel=>exact⟨k+1,by go_num,rfl,by omega,H6.out⟩
   case measure=>simp[intOf];omega
  ·have hkk:k=X.n:=by omega
   go_wp2_with fail
   go_ret
   exact⟨rfl,LW.out⟩
end Rp
end
section
open Go.RowKit Mem Box Zns
namespace Rp
open Zon (Zn Zv B8)
open Ext (RowL manyE)
open GM (getB KN)
theorem used_of (z:Nat) (rs:List Seg.Rc):(fdZ z rs).used=(datZ z rs).length:=by
 cases rs with
 |nil=>rfl
 |cons a t=>
  show(Seg.frame (Seg.headX (hz z))).length+(Seg.frames (a::t)).length=(Seg.frame (Seg.headX (hz z))++Seg.frames (a::t)).length
  rw[List.length_append]
theorem back_walk {A:Option Addr} {m c:Nat} {ls:List Wr} {w:World} (h:RowS cellsW 5 w A m c ls) (zones:Int):
  Calls Tryz.prog 3 #[.slice A m c,.int .i64 zones] w fun e w'=>e= .returned (.bool true)∧Below w.heap.size w w':=by
 have HLV:=Lib.hid (live_any w)
 have HH:=Lib.hid h
 have hmb:=h.big
 clear h
 by_cases hm:(40:Int)<(m:Int)
 ·go_enter Tryz.func3,Tryz.ntmps3
  go_wp2_with (go_at_call 8;refine HLV.out.mono ?_;rintro e w1 ⟨rfl,hb⟩;have L1:=Lib.hid hb;clear hb)
  go_ret
  exact⟨rfl,L1.out⟩
 ·obtain⟨r1,j1,k1,k2,k3,k4,k5,k6⟩:∃(r:Int) (j:Nat),Int.tmod zones 4=r∧ -4<r∧r<4∧Int.tmod (r+4) 4=j∧(r+4)%4=j∧j<4:=Cut.cut_at zones 4 (by omega)
  obtain⟨n,hn⟩:∃n:Nat,(1:Int)+(j1:Int)=(n:Int):=⟨1+j1,by omega⟩
  have hn1:1≤n:=by omega
  have hn4:n≤4:=by omega
  have hm40:m≤40:=by omega
  have HRUN:=fun W (hW:Below w.heap.size w W)=>Lib.hid (run_any (HH.out.below hW) hm40 hn1 hn4)
  go_enter Tryz.func3,Tryz.ntmps3
  go_upto_region 6 with(first
   |(go_at_call 8;refine HLV.out.mono ?_;rintro e w1 ⟨rfl,hb⟩;have L1:=Lib.hid hb;clear hb)
   |(go_at_call 9;refine(HRUN w1 L1.out).out.mono ?_;rintro e w2 ⟨X,L,mb,ws,rfl,hR⟩;have L2:=Lib.hid (L1.out.trans (hR.out.bel.mono L1.out.size))))
  clear k1 k2 k3 k4 k5 k6 hn HRUN HLV
  have bb:Below w2.heap.size w2 (w2.alloc (.cells #[.int .i64 X.cap,.int .i64 X.op,.int .i64 X.ac,.slice X.A X.n X.c] 26)):=(Below.refl _ w2).alloc (Nat.le_refl _) _
  have L3:=Lib.hid (L2.out.trans (bb.mono L2.out.size))
  have C3:Hid (Cells (w2.alloc (.cells #[.int .i64 X.cap,.int .i64 X.op,.int .i64 X.ac,.slice X.A X.n X.c] 26)) w2.heap.size 26 #[.int .i64 X.cap,.int .i64 X.op,.int .i64 X.ac,.slice X.A X.n X.c]):=Cells.new _ _ _
  have D3:Hid (DevAt (w2.alloc (.cells #[.int .i64 X.cap,.int .i64 X.op,.int .i64 X.ac,.slice X.A X.n X.c] 26)) X):=hR.out.dev.below bb
  have HPX:=Lib.hid hR.out.px
  have HOK:=Lib.hid hR.out.ok
  have HLG:=Lib.hid hR.out.lg
  have HMW:=Lib.hid (hR.out.mw.below bb)
  have HWT:=Lib.hid hR.out.wt
  have HV3:Hid (Dev (w2.alloc (.cells #[.int .i64 X.cap,.int .i64 X.op,.int .i64 X.ac,.slice X.A X.n X.c] 26)) X (fsOf n L)):=dev_of hR.out.lg hn4 (hR.out.dev.below bb) hR.out.px hR.out.ok
  generalize w2.alloc (.cells #[.int .i64 X.cap,.int .i64 X.op,.int .i64 X.ac,.slice X.A X.n X.c] 26)=w3 at*
  generalize w2.heap.size=dg at*
  clear bb hR L2
  have HMP:=Lib.hid (map_run D3.out HPX.out HOK.out hn4 HLG.out hm40)
  have m0:=Cells.cell C3.out 0
  have m1:=Cells.cell C3.out 1
  have m2:=Cells.cell C3.out 2
  have m3:=Cells.cell C3.out 3
  go_upto_region 9 with(go_at_call 10;refine HMP.out.mono ?_;rintro e w4 ⟨MA,mq,mc,mp,rfl,hM,hb⟩;have K4:=Lib.hid hb;have L4:=Lib.hid (L3.out.trans (hb.mono L3.out.size));have C4:=Lib.hid (Cells.below C3.out hb);have D4:=Lib.hid (D3.out.below hb);have W4:=Lib.hid (HMW.out.below hb);have V4:=Lib.hid (HV3.out.below hb);clear hb)
  clear m0 m1 m2 m3 HMP C3 D3 L3 HMW HV3
  have HMO:=Lib.hid hM.out.2.1
  have HMR:=Lib.hid hM.out.1
  clear hM
  have HTO:=Lib.hid (torn_none V4.out (fun k v f hv hf=>by
   have hk:k<n:=by have:=(List.getElem?_eq_some_iff.1 hf).1;simpa [fsOf] using this
   have e:=Option.some.inj (hf.symm.trans (fsOf_get L hk))
   obtain⟨v',hv',hd,-⟩:=dat_of D4.out HPX.out hk
   have ev:=Option.some.inj (hv.symm.trans hv')
   rw[e,used_of,ev,hd]))
  have HMN:=many_keys HMO.out HLG.out HWT.out W4.out.kn
  have HNY:=fun W (hW:Below w4.heap.size w4 W)=>Lib.hid (Ext.many_any (HMR.out.below hW) HMO.out.ok)
  rw[HMN] at HNY
  have HLN:=fun W (hW:Below w4.heap.size w4 W) (ty:TypeId)=>GM.run_len Tryz.underlying27 (W4.out.below hW) ty
  have m0:=Cells.cell C4.out 0
  have m1:=Cells.cell C4.out 1
  have m2:=Cells.cell C4.out 2
  have m3:=Cells.cell C4.out 3
  clear HMN V4
  go_upto_region 11 with(first
   |(go_at_call 11;refine HTO.out.mono ?_;rintro e w5 ⟨rfl,hb⟩;have K5:=Lib.hid hb;clear hb)
   |(go_at_call 12;refine(HNY w5 K5.out).out.mono ?_;rintro e w6 ⟨rfl,hb⟩;have K6:=Lib.hid (K5.out.trans (hb.mono K5.out.size));have hlen:=HLN w6 K6.out;clear hb))
  clear m0 m1 m2 m3 hlen HLN HNY HTO
  have HBY:=fun W (hW:Below w4.heap.size w4 W) (a:Int) (ha:0≤a) (ha2:a≤2000000000) (k:Nat) (hk:1≤k) (hk2:k≤4000)=>Lib.hid (bytes_run (D4.out.below hW) HPX.out HOK.out HLG.out HMO.out (HMR.out.below hW) ha ha2 hk hk2)
  go_wp2_with fail
  go_loopw [11,12,13,14,15,55] (fun _ _ _ _ _ i wr=>∃j:Nat,i= .int .i64 j∧j≤60∧Hid (Below w6.heap.size w6 wr)) (fun _ _ _ _ _ i _=>60-(intOf i).toNat)
  case atStart=>exact⟨0,rfl,by omega,Below.refl _ _⟩
  case round=>
   obtain⟨j,rfl,hj,hI⟩:=hrel
   have KW:=Lib.hid (K6.out.trans (hI.out.mono K6.out.size))
   by_cases hjl:j<60
   ·have hj0:(0:Int)≤(j:Int):=by omega
    have hj1:(j:Int)<60:=by omega
    have HB1:Hid (Calls Tryz.prog 13 #[.agg #[.int .i64 X.cap,.int .i64 X.op,.int .i64 X.ac,.slice X.A X.n X.c],.slice MA mq mc,.int .i64 (j:Int),.int .i64 1] wr fun e w'=>∃(B:Option Addr) (d:Nat),e= .returned (.tuple #[.slice B 16 d,.int .i64 0])∧Hid (Row cb w' B 16 d (blocksW L (j:Int) 1))∧Below wr.heap.size wr w'):=(HBY wr KW.out (j:Int) (by omega) (by omega) 1 (by omega) (by omega))
    rw[blocksW_one] at HB1
    have C6:=Lib.hid (Cells.below C4.out KW.out)
    have m0:=Cells.cell C6.out 0
    have m1:=Cells.cell C6.out 1
    have m2:=Cells.cell C6.out 2
    have m3:=Cells.cell C6.out 3
    go_upto_region 15 with(go_at_call 13;refine HB1.out.mono ?_;rintro e w7 ⟨QA,qc,rfl,hB,hb⟩;have I7:=Lib.hid (hI.out.trans (hb.mono hI.out.size));have Q7:=Lib.hid hB.out;have K7:=Lib.hid (KW.out.trans (hb.mono KW.out.size));clear hb hB)
    clear m0 m1 m2 m3 HB1 C6
    have hgt:=getWt (W4.out.below K7.out) (j:Int)
    rcases hg:getB ws (j:Int) with _|l
    ·rw[hg] at hgt
     have hgt:(Instr.lookup 27 (.map (some mb)) (.int .i64 (j:Int)) true).run Tryz.prog w7= .ok (.tuple #[.string ByteArray.empty,.bool false]) w7:=hgt
     have HW16:Hid (W16 L (j:Int)=List.replicate 16 0#8):=by
      show _=_
      unfold W16
      rw[←HWT.out,hg];rfl
     have HF0:Hid (Calls Tryz.prog 14 #[.int .u8 0,.int .i64 16] w7 fun e w'=>∃A,e= .returned (.slice A 16 16)∧OwnB w7.heap.size w' A 16 16 (W16 L (j:Int))∧Below w7.heap.size w7 w'):=by
      show Calls _ _ _ _ _
      rw[HW16.out];exact fill_any 0#8 (n:=16) (by omega) w7
     have hT16:=Lib.hid (W16_len HLG.out (j:Int))
     clear hg HW16
     generalize W16 L (j:Int)=TW at*
     go_wp2_with (first
      |(go_at_call 14;refine HF0.out.mono ?_;rintro e w8 ⟨FA,rfl,hO,hb⟩
        have I8:=Lib.hid (I7.out.trans (hb.mono I7.out.size))
        have s1:=run_str (Wire.gave_row hO (by rw[hT16.out];omega)).1
        have s2:=run_str (Row.below Q7.out hb)
        clear hO hb))
     go_roundw
     case rel=>exact⟨j+1,by go_num,by omega,I8⟩
     case measure=>simp[intOf];omega
    ·rw[hg] at hgt
     have hgt:(Instr.lookup 27 (.map (some mb)) (.int .i64 (j:Int)) true).run Tryz.prog w7= .ok (.tuple #[.string (str l),.bool true]) w7:=hgt
     have HW16:Hid (W16 L (j:Int)=l):=by
      show _=_
      unfold W16
      rw[←HWT.out,hg];rfl
     have s2:=run_str Q7.out
     rw[HW16.out] at s2
     clear hg HW16
     go_wp2_with fail
     go_roundw
     case rel=>exact⟨j+1,by go_num,by omega,I7⟩
     case measure=>simp[intOf];omega
   ·have L9:=Lib.hid (L4.out.trans (KW.out.mono L4.out.size))
    have hjn:¬(j:Int)<60:=by omega
    clear HBY
    go_wp2_with fail
    go_ret
    exact⟨rfl,L9.out⟩
end Rp
end
section
open Go.ChangeShapes Go.WideShapes Go.ChangeAt Go.RowKit Mem Args
namespace Rp
theorem replayBack_says:Frame.Says Rows.replayBackSpec 2:=by
 refine⟨rfl,fun H ds h=> ?_,fun H ds h=> ?_,fun H ds h=> ?_⟩<;>
 ·match ds,h with
  | [d0,d1],_=>rfl
theorem replayBack_walks:Frame.Walks 3 [22,3]:=by
 intro H enc W args ds ps base hok hA hsz
 obtain⟨v0,vs0,d0,ds0,p0,q0,hargs,rfl,rfl,h0,r0⟩:=trodAll_cons hA
 obtain⟨v1,vs1,d1,ds1,p1,q1,rfl,rfl,rfl,h1,r1⟩:=trodAll_cons r0
 obtain⟨rfl,rfl,rfl⟩:=trodAll_nil r1
 obtain rfl:args= #[v0,v1]:=by cases args;simp_all
 obtain⟨A0,n0,c0,l0,rfl,k0⟩:=open_writes (hok 0 _ v0 rfl rfl) h0 (sized_arg hsz (j:=0) rfl rfl)
 obtain⟨z1,rfl,rfl,rfl,hz1⟩:=open_int Tryz.underlying3 (hok 1 _ v1 rfl rfl) h1
 exact back_walk k0 z1
theorem replayBack_over:Rows.replayBackRow.holds Tryz.pinned (OpenSpec.ofChange Rows.replayBackSpec):=
 OpenClaim.holds_of_wide 3 Tryz.f3 rfl rfl rfl rfl rfl rfl rfl ⟨rfl,rfl,rfl,rfl,rfl⟩ rfl rfl rfl rfl rfl (by kernel_rfl) Tryz.func3 (by kernel_rfl)
  (of_decide_eq_true (by kernel_rfl)) (by unfold Func.isWrapper;first|(rw[if_pos (by decide+kernel)];kernel_rfl)|(rw[if_neg (by decide+kernel)];exact⟨rfl,rfl⟩))
  (fun os started H enc _=>Frame.lifted (started:=started) Tryz.underlying4 (by kernel_rfl) Tryz.func3 (n:=2) (by rw[Tryz.params3];rfl) replayBack_says (by rw[Tryz.params3];kernel_rfl) (by kernel_rfl)
   (ChangeSpec.witness6 (enc:=enc) (C:=Tryz.checked) false ⟨#[],#[.slice none 0 0,.int .i64 0],[]⟩ 8 (by kernel_rfl) (by kernel_rfl) (by kernel_rfl) (by kernel_rfl))
   (by rw[Tryz.params3];exact replayBack_walks))
end Rp
theorem replayBack_holds:Rows.ReplayBackSaid:=Rp.replayBack_over
end
end Go.Proofs.YtmkagjnkpjpjcaaGreat
