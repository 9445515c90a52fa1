/-
  SEVERAL TEXTS IN ONE FILE: PSegScan, PSegSeg, PSegRef, PSegLive, PSegOpen, PSegBig, PSegZeros, PSegPre, PPkPlain, POwnS, POwnO, PBox, PRes.
-/
import Derived.Test.YtmkagjnkpjpjcaaGreatJ08
import Derived.Test.YtmkagjnkpjpjcaaGreatJ02
import Derived.Deep.Fields
import Derived.Deep.Slices
import Derived.Lib.Hide
import Derived.WalkKit
import Derived.Deep.DeepCutAuto
import Derived.Lib.LazyBuf
namespace Go.Proofs.YtmkagjnkpjpjcaaGreat
set_option maxRecDepth 100000
set_option linter.unusedSimpArgs false
set_option linter.unusedVariables false
set_option maxHeartbeats 6400000
section
open Go.RowKit Mem
namespace Seg
open Wire
def starts:Nat→List (Rc × Nat)→List Int
 |_,[]=> []
 |u,(_,k)::l=>(u:Int)::starts (u+k) l
def total (l:List (Rc × Nat)):Nat:=(l.map (·.2)).sum
theorem starts_snoc:∀(u:Nat) (l:List (Rc × Nat)) (r:Rc) (k:Nat),starts u (l++ [(r,k)])=starts u l++ [((u+total l:Nat):Int)]
 |u,[],r,k=>by simp[starts,total]
 |u,(_,j)::l,r,k=>by
  rw[List.cons_append,starts,starts,starts_snoc (u+j) l r k]
  simp[total];omega
theorem starts_len:∀(u:Nat) (l:List (Rc × Nat)),(starts u l).length=l.length
 |_,[]=>rfl
 |u,(_,k)::l=>by rw[starts,List.length_cons,List.length_cons,starts_len]
theorem total_snoc (l:List (Rc × Nat)) (r:Rc) (k:Nat):total (l++ [(r,k)])=total l+k:=by simp[total]
def headAt (b:List B8):Option (Hdr × Nat):=
 match tk b with
 |some (x,k)=>(match takeHead x with
  |some h=>some (h,k)
  |none=>none)
 |none=>none
def foundV (h:Hdr) (L A:Value) (u:Nat):Value:= .agg #[.bool true,.int .i64 h.host,.int .i64 h.epoch,.int .i64 h.seq,L,A,.int .i64 (u:Int)]
def noneV:Value:= .agg #[.bool false,.int .i64 0,.int .i64 0,.int .i64 0,.slice none 0 0,.slice none 0 0,.int .i64 0]
structure FoundIn (base u0:Nat) (acc:List (Rc × Nat)) (L A:Value) (xs:List Rv) (w:World):Prop where
 rows:OwnsR base w L acc.length xs
 ats:Owns ci 3 base w A acc.length (starts u0 acc)
 data:∀x∈xs,Owns cb 5 base w (.slice x.D x.r.data.length x.c) x.r.data.length x.r.data
 recs:xs.map Rv.r=acc.map (·.1)
def Scanned (b:List B8) (w:World) (en:Ending) (w':World):Prop:=
 (match headAt b with
  |none=>en= .returned noneV
  |some (h,u0)=>∃acc L A xs,Scans (b.drop u0) acc∧u0+total acc≤b.length∧en= .returned (foundV h L A (u0+total acc))∧FoundIn w.heap.size u0 acc L A xs w')∧Below w.heap.size w w'
section
variable {base u0:Nat} {acc:List (Rc × Nat)} {L A:Value} {xs:List Rv} {w w':World}
theorem FoundIn.nil:FoundIn base u0 [] (.slice none 0 0) (.slice none 0 0) [] w:=⟨OwnsR.nil _ _,Owns.nil _ _ _ _,by simp,rfl⟩
theorem FoundIn.keepG {g:Nat} (h:FoundIn base u0 acc L A xs w) (hg:g<base) (k:Crc.Keep g w w'):FoundIn base u0 acc L A xs w':=
 ⟨h.rows.keepG hg k,Owns.keepG h.ats hg k,fun x hx=>Owns.keepG (h.data x hx) hg k,h.recs⟩
theorem FoundIn.below (h:FoundIn base u0 acc L A xs w) (hb:Below w.heap.size w w'):FoundIn base u0 acc L A xs w':=
 ⟨h.rows.below hb,h.ats.below hb,fun x hx=>(h.data x hx).below hb,h.recs⟩
theorem FoundIn.setCell (h:FoundIn base u0 acc L A xs w) {p:Addr} (hp:p.block<base) (v:Value):FoundIn base u0 acc L A xs (w.setCell p v):=
 ⟨h.rows.setCell hp v,Owns.setCell h.ats hp v,fun x hx=>Owns.setCell (h.data x hx) hp v,h.recs⟩
theorem FoundIn.mono {base':Nat} (h:FoundIn base u0 acc L A xs w) (hb:base'≤base):FoundIn base' u0 acc L A xs w:=
 ⟨h.rows.mono hb,h.ats.mono hb,fun x hx=>(h.data x hx).mono hb,h.recs⟩
theorem FoundIn.set7 {g:Nat} (h:FoundIn base u0 acc L A xs w) (hp:g<base) (v0 v1 v2 v3 v4 v5 v6:Value):FoundIn base u0 acc L A xs (((((((w.setCell ⟨g,0,none⟩ v0).setCell ⟨g,1,none⟩ v1).setCell ⟨g,2,none⟩ v2).setCell ⟨g,3,none⟩ v3).setCell ⟨g,4,none⟩ v4).setCell ⟨g,5,none⟩ v5).setCell ⟨g,6,none⟩ v6):=
 ((((((h.setCell (p:=⟨g,0,none⟩) hp v0).setCell (p:=⟨g,1,none⟩) hp v1).setCell (p:=⟨g,2,none⟩) hp v2).setCell (p:=⟨g,3,none⟩) hp v3).setCell (p:=⟨g,4,none⟩) hp v4).setCell (p:=⟨g,5,none⟩) hp v5).setCell (p:=⟨g,6,none⟩) hp v6
end
theorem scan_none {A:Option Addr} {n c:Nat} {b:List B8} {w:World} (h:Row cb w A n c b) (hn:n≤1000000) (hh:headAt b=none):
  Calls Tryz.prog 43 #[.slice A n c] w (Scanned b w):=by
 have HR:=Lib.hid h
 have HT:=fun g w (ht:Tk g 0 w) (h:RowO g w A n c b)=>Lib.hid (take_any ht (by omega) h hn)
 have HH:=fun A n c x w (h:Row cb w A n c x) (hn:n≤1000000)=>Lib.hid (takeHead_any h hn)
 have HN:=fun w=>Lib.hid (newFrames_any w)
 have L1:=Lib.hid ((Below.refl w.heap.size w).alloc (Nat.le_refl _) (.cells #[.bool false,.int .i64 0,.int .i64 0,.int .i64 0,.slice none 0 0,.slice none 0 0,.int .i64 0] 71))
 have C1:Hid (Cells (w.alloc (.cells #[.bool false,.int .i64 0,.int .i64 0,.int .i64 0,.slice none 0 0,.slice none 0 0,.int .i64 0] 71)) w.heap.size 71 #[.bool false,.int .i64 0,.int .i64 0,.int .i64 0,.slice none 0 0,.slice none 0 0,.int .i64 0]):=heap_alloc_new w _
 unfold frV at*
 clear h
 go_enter Tryz.func43,Tryz.ntmps43
 go_wp2_with fail
 generalize w.alloc (.cells #[.bool false,.int .i64 0,.int .i64 0,.int .i64 0,.slice none 0 0,.slice none 0 0,.int .i64 0] 71)=w1 at*
 refine(HN w1).out.mono ?_
 rintro e w2 ⟨g,hg,rfl,hT,hb2⟩
 have L2:=Lib.hid (L1.out.trans (hb2.mono L1.out.size))
 have C2:=Lib.hid (Cells.below C1.out hb2)
 have T2:=Lib.hid hT
 have G1:Hid (w.heap.size<g):=Nat.lt_of_lt_of_le (Cells.lt C1.out) hg
 clear hb2 hT hg C1 L1 HN
 go_wp2_with fail
 have L3:=Lib.hid (L2.out.alloc L2.out.size (.cells #[.pointer (some ⟨g,0,none⟩)] 104))
 have C3:=Lib.hid (Cells.below C2.out ((Below.refl _ w2).alloc (Nat.le_refl _) (.cells #[.pointer (some ⟨g,0,none⟩)] 104)))
 have T3:=Lib.hid (T2.out.alloc (.cells #[.pointer (some ⟨g,0,none⟩)] 104))
 have hR3:Hid (RowO g (w2.alloc (.cells #[.pointer (some ⟨g,0,none⟩)] 104)) A n c b):=by
  have h0:=RowO.of_low HR.out (Nat.le_of_lt G1.out)
  exact⟨HR.out.below L3.out,h0.off⟩
 generalize w2.alloc (.cells #[.pointer (some ⟨g,0,none⟩)] 104)=w3 at*
 clear L2 C2 T2
 rcases ht:tk b with _|⟨x,k⟩
 ·rw[ht] at HT
  refine(HT g w3 T3.out hR3.out).out.mono ?_
  rintro e w4 ⟨⟨rfl,hK4⟩,-⟩
  have C4:=Lib.hid ((Keep.block hK4 (Cells.lt C3.out) (Nat.ne_of_lt G1.out)).trans C3.out)
  have L4:=Lib.hid (L3.out.trans (hK4.low (B:=w.heap.size) (Nat.le_of_lt G1.out) L3.out.size))
  obtain⟨⟨c0,c1,c2,c3,c4,c5,c6⟩,f0,f1,f2,f3,f4,f5,f6⟩:=Cells.seven (show Cells w4 w.heap.size _ _ from C4.out)
  clear hK4 HT HH L3 C3 T3 hR3
  go_wp2_with fail
  (try simp only[Exit.inBlock,Exit.then])
  refine bodyPost_ret_by (results_cell_row rfl _ _ w.heap.size _ _ _ _ rfl (Cells.set7 (show Hid (Cells w4 w.heap.size _ _) from C4).out _ _ _ _ _ _ _) Tryz.underlying71 rfl (by kernel_rfl)) rfl ?_
  exact⟨by rw[hh];rfl,below7 L4.out _ _ _ _ _ _ _⟩
 ·have hth:takeHead x=none:=by
    unfold headAt at hh
    rw[ht] at hh
    simp only at hh
    split at hh
    ·cases hh
    ·assumption
  obtain⟨t1,t2,t3,t4⟩:=tk_one ht
  have HH:=fun A n c w h hn=>HH A n c x w h hn
  rw[ht] at HT
  rw[hth] at HH
  refine(HT g w3 T3.out hR3.out).out.mono ?_
  rintro e w4 ⟨⟨⟨X,j,d,rfl,hO4⟩,hK4⟩,-⟩
  have C4:Hid (Cells w4 w.heap.size _ _):=Lib.hid ((Keep.block hK4 (Cells.lt C3.out) (Nat.ne_of_lt G1.out)).trans C3.out)
  have L4:=Lib.hid (L3.out.trans (hK4.low (B:=w.heap.size) (Nat.le_of_lt G1.out) L3.out.size))
  have hj:=hO4.len
  obtain⟨X',d',e5,hrow⟩:=hO4.row (by omega)
  obtain⟨rfl,-,rfl⟩:X=X'∧j=j∧d=d':=by simpa using e5
  have R4:=Lib.hid hrow
  clear hK4 HT L3 C3 T3 hR3 e5 hrow hO4 t1 t2 t4 ht hth
  go_wp2_with fail
  refine(HH X j d w4 R4.out (by omega)).out.mono ?_
  rintro e w5 ⟨rfl,hb5⟩
  have C5:=Lib.hid (Cells.below (Cells.below C4.out hb5) ((Below.refl _ w5).alloc (Nat.le_refl _) (.cells #[.int .i64 0,.int .i64 0,.int .i64 0] 68)))
  have L5:=Lib.hid ((L4.out.trans (hb5.mono L4.out.size)).alloc (Nat.le_trans L4.out.size hb5.size) (.cells #[.int .i64 0,.int .i64 0,.int .i64 0] 68))
  obtain⟨⟨c0,c1,c2,c3,c4,c5,c6⟩,f0,f1,f2,f3,f4,f5,f6⟩:=Cells.seven C5.out
  clear hb5 HH C4 L4 R4
  go_wp2_with fail
  (try simp only[Exit.inBlock,Exit.then])
  refine bodyPost_ret_by (results_cell_row rfl _ _ w.heap.size _ _ _ _ rfl (Cells.set7 C5.out _ _ _ _ _ _ _) Tryz.underlying71 rfl (by kernel_rfl)) rfl ?_
  exact⟨by rw[hh];rfl,below7 L5.out _ _ _ _ _ _ _⟩
structure SI (g F fb:Nat) (w0:World) (n:Nat) (b:List B8) (h:Hdr) (u0 used:Nat) (acc:List (Rc × Nat)) (L At:Value) (xs:List Rv) (wr:World):Prop where
 below:Below w0.heap.size w0 wr
 fbx:Cells wr fb 104 #[.pointer (some ⟨g,0,none⟩)]
 fnd:Cells wr F 71 #[.bool true,.int .i64 h.host,.int .i64 h.epoch,.int .i64 h.seq,L,At,.int .i64 (used:Int)]
 res:Cells wr w0.heap.size 71 #[.bool false,.int .i64 0,.int .i64 0,.int .i64 0,.slice none 0 0,.slice none 0 0,.int .i64 0]
 tab:Tk g (acc.length+1) wr
 found:FoundIn (F+1) u0 acc L At xs wr
 scan:∀l,Scans (b.drop used) l→Scans (b.drop u0) (acc++l)
 usedEq:used=u0+total acc
 le:used≤n
 cnt:5*acc.length≤used
section
variable {g F fb n u0 used:Nat} {w0 wr w':World} {b:List B8} {h:Hdr} {acc:List (Rc × Nat)} {L At:Value} {xs:List Rv}
theorem SI.keep (hI:SI g F fb w0 n b h u0 used acc L At xs wr) (k:Crc.Keep g wr w') (ht:Tk g (acc.length+2) w') (hg:w0.heap.size<g) (hf:g<fb) (hF:fb<F):
  Below w0.heap.size w0 w'∧Cells w' fb 104 #[.pointer (some ⟨g,0,none⟩)]∧Cells w' F 71 #[.bool true,.int .i64 h.host,.int .i64 h.epoch,.int .i64 h.seq,L,At,.int .i64 (used:Int)]∧
   Cells w' w0.heap.size 71 #[.bool false,.int .i64 0,.int .i64 0,.int .i64 0,.slice none 0 0,.slice none 0 0,.int .i64 0]∧Tk g (acc.length+2) w'∧FoundIn (F+1) u0 acc L At xs w':=
 ⟨hI.below.trans (k.low (Nat.le_of_lt hg) hI.below.size),(Keep.block k (Cells.lt hI.fbx) (by omega)).trans hI.fbx,(Keep.block k (Cells.lt hI.fnd) (by omega)).trans hI.fnd,(Keep.block k (Cells.lt hI.res) (by omega)).trans hI.res,ht,hI.found.keepG (by omega) k⟩
end
theorem OwnsR.slice {base:Nat} {w:World} {s:Value} {n:Nat} {xs:List Rv} (h:OwnsR base w s n xs):∃A c,s= .slice A n c:=by
 rcases h.1.2 with⟨rfl,h0⟩|⟨q,cap,cur,rfl,-⟩
 ·exact⟨none,0,by rw[h0]⟩
 ·exact⟨_,_,rfl⟩
theorem info_rec:(Tryz.prog.info? 49).map (fun i=>(i.zero,i.size,i.bytes))=some (some zeroRec,7,72):=by kernel_rfl
theorem one_rec (x:Rv):∀u∈cellsOf x,u.oneCell'=true:=by
 intro u hu
 simp only[cellsOf,List.mem_cons,List.not_mem_nil,or_false] at hu
 rcases hu with rfl|rfl|rfl|rfl|rfl|rfl|rfl<;>rfl
theorem rec_cells_new (w:World) (x:Rv) (t:TypeId) {b:Nat} (hb:b=w.heap.size):∀j u,(cellsOf x)[j]? =some u→(w.alloc (.cells #[.int .i64 x.r.kind,.int .i64 x.r.lba,.int .i64 x.r.n,.int .i64 x.r.ver,.int .i64 x.r.zone,.int .i64 x.r.off,.slice x.D x.r.data.length x.c] t)).cell? ((⟨b,0,none⟩:Addr).add j)=some u:=by
 subst hb
 intro j u hu
 rw[add_none,cell_of_row _ w.heap.size (0+j) _ _ (0,0) (heap_alloc_new w _),Nat.zero_add]
 rw[List.getElem?_toArray]
 exact hu
theorem int_cell_new (w:World) (z:Int) (t:TypeId) {b:Nat} (hb:b=w.heap.size):∀j u,([Value.int .i64 z])[j]? =some u→(w.alloc (.cells #[.int .i64 z] t)).cell? ((⟨b,0,none⟩:Addr).add j)=some u:=by
 subst hb
 intro j u hu
 rw[add_none,cell_of_row _ w.heap.size (0+j) _ _ (0,0) (heap_alloc_new w _),Nat.zero_add]
 rw[List.getElem?_toArray]
 exact hu
theorem found_rows {base u0:Nat} {acc:List (Rc × Nat)} {L At:Value} {xs:List Rv} {w10 w11:World} {r:Rc} {k:Nat} {D:Option Addr} {cc:Nat} {L':Value} (hf:FoundIn base u0 acc L At xs w10) (hd:Owns cb 5 base w10 (.slice D r.data.length cc) r.data.length r.data)
  (ho:w11.ownsRow base 49 7 L' (acc.length+1) (xs.flatMap cellsOf++cellsOf ⟨r,D,cc⟩)) (hoth:Oth 49 w10 w11):
  OwnsR base w11 L' (acc.length+1) (xs++ [⟨r,D,cc⟩])∧Owns ci 3 base w11 At acc.length (starts u0 acc)∧
   (∀x∈xs++ [(⟨r,D,cc⟩:Rv)],Owns cb 5 base w11 (.slice x.D x.r.data.length x.c) x.r.data.length x.r.data)∧(xs++ [(⟨r,D,cc⟩:Rv)]).map Rv.r=(acc++ [(r,k)]).map (·.1):=by
 refine⟨⟨by simpa using ho,by have:=hf.rows.2;simp;omega⟩,Oth.owns hf.ats hoth (by decide),fun x hx=> ?_,by simp[hf.recs]⟩
 rcases List.mem_append.1 hx with hx|hx
 ·exact Oth.owns (hf.data x hx) hoth (by decide)
 ·simp only[List.mem_singleton] at hx
  subst hx
  exact Oth.owns hd hoth (by decide)
theorem found_more {F u0 used:Nat} {acc:List (Rc × Nat)} {L' At At':Value} {xs:List Rv} {w11 w13 w14:World} {r:Rc} {k:Nat} {D:Option Addr} {cc:Nat} {v4:Value}
  (hp:OwnsR (F+1) w11 L' (acc.length+1) (xs++ [⟨r,D,cc⟩])∧Owns ci 3 (F+1) w11 At acc.length (starts u0 acc)∧
   (∀x∈xs++ [(⟨r,D,cc⟩:Rv)],Owns cb 5 (F+1) w11 (.slice x.D x.r.data.length x.c) x.r.data.length x.r.data)∧(xs++ [(⟨r,D,cc⟩:Rv)]).map Rv.r=(acc++ [(r,k)]).map (·.1)) (hu:used=u0+total acc)
  (ho:w14.ownsRow (F+1) 3 1 At' (acc.length+1) ((starts u0 acc).map ci++ [.int .i64 (used:Int)])) (hb:Below (w11.setCell ⟨F,4,none⟩ v4).heap.size (w11.setCell ⟨F,4,none⟩ v4) w13) (hoth:Oth 3 w13 w14):
  FoundIn (F+1) u0 (acc++ [(r,k)]) L' At' (xs++ [⟨r,D,cc⟩]) w14:=by
 obtain⟨h1,h2,h3,h4⟩:=hp
 refine⟨?_,?_,fun x hx=> ?_,h4⟩
 ·have:=(OwnsR.oth ((h1.setCell (p:=⟨F,4,none⟩) (Nat.lt_succ_self F) v4).below hb) hoth (by decide))
  simpa using this
 ·rw[starts_snoc,←hu]
  unfold Owns
  rw[List.length_append,List.map_append]
  exact ho
 ·exact Oth.owns ((Owns.setCell (h3 x hx) (p:=⟨F,4,none⟩) (Nat.lt_succ_self F) v4).below hb) hoth (by decide)
theorem SI.next {g F fb n u0 used:Nat} {w0 wr w9 w16:World} {b:List B8} {h:Hdr} {acc:List (Rc × Nat)} {L At L' At':Value} {xs xs':List Rv} {r:Rc} {k:Nat}
  (hI:SI g F fb w0 n b h u0 used acc L At xs wr) (hone:one (b.drop used)=some (r,k)) (hkn:used+k≤n) (hk:5≤k) (hL:Below w0.heap.size w0 w9)
  (hX:Cells w9 fb 104 #[.pointer (some ⟨g,0,none⟩)]) (hC:Cells w9 w0.heap.size 71 #[.bool false,.int .i64 0,.int .i64 0,.int .i64 0,.slice none 0 0,.slice none 0 0,.int .i64 0])
  (hT:Tk g (acc.length+2) w9) (hQ:Below F w9 w16) (hD:Cells w16 F 71 #[.bool true,.int .i64 h.host,.int .i64 h.epoch,.int .i64 h.seq,L',At',.int .i64 ((used+k:Nat):Int)])
  (hN:FoundIn (F+1) u0 (acc++ [(r,k)]) L' At' xs' w16) (hg:w0.heap.size<g) (hf:g<fb) (hF:fb<F):
  SI g F fb w0 n b h u0 (used+k) (acc++ [(r,k)]) L' At' xs' w16:=by
 refine⟨hL.trans (hQ.mono (by omega)),(hQ.block fb hF).trans hX,hD,(hQ.block _ (by omega)).trans hC,?_,hN,?_,?_,hkn,?_⟩
 ·have:=hT.heap (hQ.block g (by omega))
  rw[List.length_append]
  exact this
 ·intro l hl
  have:=hI.scan ((r,k)::l) (.step hone (by rw[List.drop_drop];exact hl))
  simpa using this
 ·rw[total_snoc]
  have:=hI.usedEq
  omega
 ·have:=hI.cnt
  simp
  omega
theorem scanned_end {g F fb n u0 used:Nat} {w0 wr w7:World} {b:List B8} {h:Hdr} {acc:List (Rc × Nat)} {L At:Value} {xs:List Rv}
  (hI:SI g F fb w0 n b h u0 used acc L At xs wr) (hone:one (b.drop used)=none) (hh:headAt b=some (h,u0)) (hlen:b.length=n) (hb:Below w0.heap.size w0 w7) (hf:FoundIn (F+1) u0 acc L At xs w7) (hF:w0.heap.size<F)
  (v0 v1 v2 v3 v4 v5 v6:Value):
  Scanned b w0 (.returned (.agg #[.bool true,.int .i64 h.host,.int .i64 h.epoch,.int .i64 h.seq,L,At,.int .i64 (used:Int)])) (((((((w7.setCell ⟨w0.heap.size,0,none⟩ v0).setCell ⟨w0.heap.size,1,none⟩ v1).setCell ⟨w0.heap.size,2,none⟩ v2).setCell ⟨w0.heap.size,3,none⟩ v3).setCell ⟨w0.heap.size,4,none⟩ v4).setCell ⟨w0.heap.size,5,none⟩ v5).setCell ⟨w0.heap.size,6,none⟩ v6):=by
 refine⟨?_,below7 hb _ _ _ _ _ _ _⟩
 rw[hh]
 have hs:=hI.scan [] (.stop hone)
 rw[List.append_nil] at hs
 have hu:=hI.usedEq
 have hle:=hI.le
 exact⟨acc,L,At,xs,hs,by omega,by unfold foundV;rw[←hu],(hf.set7 (by omega) _ _ _ _ _ _ _).mono (by omega)⟩
theorem scan_some {A:Option Addr} {n c:Nat} {b:List B8} {w:World} (hr:Row cb w A n c b) (hn:n≤1000000) {x:List B8} {u0:Nat} {h:Hdr} (ht:tk b=some (x,u0)) (hth:takeHead x=some h):
  Calls Tryz.prog 43 #[.slice A n c] w (Scanned b w):=by
 have HR:=Lib.hid hr
 have hh:Hid (headAt b=some (h,u0)):=by show _=_;unfold headAt;rw[ht];simp only[hth]
 obtain⟨t1,t2,t3,t4⟩:=tk_one ht
 have HT:=fun g w (htb:Tk g 0 w) (h:RowO g w A n c b)=>Lib.hid (take_any htb (by omega) h hn)
 rw[ht] at HT
 have HH:=fun A n c w (hr:Row cb w A n c x) (hn:n≤1000000)=>Lib.hid (takeHead_any hr hn)
 rw[hth] at HH
 have HN:=fun w=>Lib.hid (newFrames_any w)
 have u0n:u0≤n:=by have:=hr.len;omega
 have L1:=Lib.hid ((Below.refl w.heap.size w).alloc (Nat.le_refl _) (.cells #[.bool false,.int .i64 0,.int .i64 0,.int .i64 0,.slice none 0 0,.slice none 0 0,.int .i64 0] 71))
 have C1:Hid (Cells (w.alloc (.cells #[.bool false,.int .i64 0,.int .i64 0,.int .i64 0,.slice none 0 0,.slice none 0 0,.int .i64 0] 71)) w.heap.size 71 #[.bool false,.int .i64 0,.int .i64 0,.int .i64 0,.slice none 0 0,.slice none 0 0,.int .i64 0]):=heap_alloc_new w _
 unfold frV at*
 clear hr ht hth t1 t2
 go_enter Tryz.func43,Tryz.ntmps43
 go_wp2_with fail
 generalize w.alloc (.cells #[.bool false,.int .i64 0,.int .i64 0,.int .i64 0,.slice none 0 0,.slice none 0 0,.int .i64 0] 71)=w1 at*
 refine(HN w1).out.mono ?_
 rintro e w2 ⟨g,hg,rfl,hT,hb2⟩
 have L2:=Lib.hid (L1.out.trans (hb2.mono L1.out.size))
 have C2:=Lib.hid (Cells.below C1.out hb2)
 have T2:=Lib.hid hT
 have G1:Hid (w.heap.size<g):=Nat.lt_of_lt_of_le (Cells.lt C1.out) hg
 have G2:Hid (g<w2.heap.size):=hT.lt
 clear hb2 hT hg C1 L1 HN
 go_wp2_with fail
 have L3:=Lib.hid (L2.out.alloc L2.out.size (.cells #[.pointer (some ⟨g,0,none⟩)] 104))
 have C3:=Lib.hid (Cells.below C2.out ((Below.refl _ w2).alloc (Nat.le_refl _) (.cells #[.pointer (some ⟨g,0,none⟩)] 104)))
 have F3:Hid (Cells (w2.alloc (.cells #[.pointer (some ⟨g,0,none⟩)] 104)) w2.heap.size 104 #[.pointer (some ⟨g,0,none⟩)]):=heap_alloc_new w2 _
 have T3:=Lib.hid (T2.out.alloc (.cells #[.pointer (some ⟨g,0,none⟩)] 104))
 have hR3:Hid (RowO g (w2.alloc (.cells #[.pointer (some ⟨g,0,none⟩)] 104)) A n c b):=by
  have h0:=RowO.of_low HR.out (Nat.le_of_lt G1.out)
  exact⟨HR.out.below L3.out,h0.off⟩
 generalize w2.alloc (.cells #[.pointer (some ⟨g,0,none⟩)] 104)=w3 at*
 generalize hfb:w2.heap.size=fb at*
 clear L2 C2 T2 hfb
 refine(HT g w3 T3.out hR3.out).out.mono ?_
 rintro e w4 ⟨⟨⟨X,j,d,rfl,hO4⟩,hK4⟩,hT4⟩
 have C4:Hid (Cells w4 w.heap.size _ _):=Lib.hid ((Keep.block hK4 (Cells.lt C3.out) (Nat.ne_of_lt G1.out)).trans C3.out)
 have F4:Hid (Cells w4 fb _ _):=Lib.hid ((Keep.block hK4 (Cells.lt F3.out) (Nat.ne_of_gt G2.out)).trans F3.out)
 have L4:=Lib.hid (L3.out.trans (hK4.low (B:=w.heap.size) (Nat.le_of_lt G1.out) L3.out.size))
 have T4:=Lib.hid hT4
 have hj:=hO4.len
 obtain⟨X',d',e5,hrow⟩:=hO4.row (by omega)
 obtain⟨rfl,-,rfl⟩:X=X'∧j=j∧d=d':=by simpa using e5
 have R4:=Lib.hid hrow
 clear hK4 HT L3 C3 T3 F3 e5 hrow hO4 hT4 hR3
 go_wp2_with fail
 refine(HH X j d w4 R4.out (by omega)).out.mono ?_
 rintro e w5 hq5
 obtain⟨rfl,hb5⟩:e= .returned (.tuple #[.agg #[.int .i64 h.host,.int .i64 h.epoch,.int .i64 h.seq],.bool true])∧Below w4.heap.size w4 w5:=hq5
 have L5:=Lib.hid (L4.out.trans (hb5.mono L4.out.size))
 have C5:=Lib.hid (Cells.below C4.out hb5)
 have F5:=Lib.hid (Cells.below F4.out hb5)
 have T5:=Lib.hid (T4.out.below hb5)
 clear hb5 HH C4 L4 R4 T4 F4
 go_wp2_with fail
 have B6:Below w5.heap.size w5 ((w5.alloc (.cells #[.int .i64 h.host,.int .i64 h.epoch,.int .i64 h.seq] 68)).alloc (.cells #[.bool true,.int .i64 h.host,.int .i64 h.epoch,.int .i64 h.seq,.slice none 0 0,.slice none 0 0,.int .i64 (u0:Int)] 71)):=((Below.refl _ w5).alloc (Nat.le_refl _) _).alloc (by simp) _
 have I6:Hid (SI g (w5.heap.size+1) fb w n b h u0 u0 [] (.slice none 0 0) (.slice none 0 0) [] ((w5.alloc (.cells #[.int .i64 h.host,.int .i64 h.epoch,.int .i64 h.seq] 68)).alloc (.cells #[.bool true,.int .i64 h.host,.int .i64 h.epoch,.int .i64 h.seq,.slice none 0 0,.slice none 0 0,.int .i64 (u0:Int)] 71))):=by
  refine⟨L5.out.trans (B6.mono L5.out.size),Cells.below F5.out B6,heap_alloc2_new w5 _ _,Cells.below C5.out B6,(T5.out.below B6).mono (by simp),FoundIn.nil,fun l hl=>hl,by simp[total],u0n,by simp⟩
 have hF:Hid (fb<w5.heap.size+1):=Nat.lt_succ_of_lt (Cells.lt F5.out)
 generalize((w5.alloc (.cells #[.int .i64 h.host,.int .i64 h.epoch,.int .i64 h.seq] 68)).alloc (.cells #[.bool true,.int .i64 h.host,.int .i64 h.epoch,.int .i64 h.seq,.slice none 0 0,.slice none 0 0,.int .i64 (u0:Int)] 71))=w6 at*
 generalize w5.heap.size+1=F at*
 clear B6 L5 C5 F5 T5
 go_loopg [] (n-u0) (fun gk wr=>∃(used:Nat) (acc:List (Rc × Nat)) (L At:Value) (xs:List Rv),gk=n-used∧Hid (SI g F fb w n b h u0 used acc L At xs wr))
 case atStart=>exact⟨u0,[],_,_,[],rfl,I6⟩
 case round=>
  obtain⟨used,acc,L,At,xs,hgk,hI⟩:=hrel
  obtain⟨LA,LC,rfl⟩:=hI.out.found.rows.slice
  obtain⟨AA,AC,rfl⟩:=hI.out.found.ats.slice
  have hun:=hI.out.le
  have hcap:=HR.out.cap
  have e0:=hI.out.fbx.cell 0
  have e6:=hI.out.fnd.cell 6
  simp at e0 e6
  have hsl:=run_tail A n c used hun
  have HT:=fun(htb:Tk g (acc.length+1) wr.drew) (h:RowO g wr.drew (tailA A c used) (n-used) (c-used) (b.drop used))=>Lib.hid (take_any htb (by have:=hI.out.cnt;omega) h (by omega))
  have hRO:RowO g wr.drew (tailA A c used) (n-used) (c-used) (b.drop used):=by
   have h0:=RowO.of_low HR.out (Nat.le_of_lt G1.out)
   exact(RowO.tail ⟨HR.out.below hI.out.below,h0.off⟩ hun).drew
  have HT:=HT hI.out.tab.drew hRO
  unfold frV at*
  clear hRO I6
  have e0d:wr.drew.cell? ⟨fb,0,none⟩=some (.pointer (some ⟨g,0,none⟩)):=e0
  have e6d:wr.drew.cell? ⟨F,6,none⟩=some (.int .i64 (used:Int)):=e6
  rcases htk:tk (b.drop used) with _|⟨y,k⟩
  ·rw[htk] at HT
   have hone:=Lib.hid (one_none htk)
   clear htk
   go_wp2_with fail
   refine wp_region_held_drew (S:=fun W=>W.cell? ⟨fb,0,none⟩=some (.pointer (some ⟨g,0,none⟩))∧W.cell? ⟨F,6,none⟩=some (.int .i64 (used:Int))) (by kernel_rfl) ⟨e0d,e6d⟩ (fun hHeld=> ?_)
   refine Reg.tk 0 rfl ?_
   refine Reg.tk 1 rfl ?_
   refine Reg.tk 2 rfl ?_
   refine Reg.tk 3 rfl ?_
   refine Reg.tk 4 rfl ?_
   refine Reg.step 5 rfl (by kernel_rfl) (by rfl) (fun K hK=> ?_)
   go_simp
   refine HT.out.mono ?_
   rintro e w7 ⟨⟨rfl,hK7⟩,hT7⟩
   obtain⟨L7,X7,D7,C7,T7,N7⟩:=hI.out.keep ((Crc.Keep.refl g wr).drew.trans hK7) hT7 G1.out G2.out hF.out
   have hs6:=And.intro (X7.cell 0) (D7.cell 6)
   simp only[List.getElem?_toArray,List.getElem?_cons_zero,List.getElem?_cons_succ] at hs6
   refine hK.out _ _ hs6 (fun hHeld7=> ?_)
   obtain⟨⟨c0,c1,c2,c3,c4,c5,c6⟩,f0,f1,f2,f3,f4,f5,f6⟩:=Cells.seven C7
   obtain⟨⟨d0,d1,d2,d3,d4,d5,d6⟩,-⟩:=Cells.seven D7
   have L7:=Lib.hid L7
   have C7:=Lib.hid C7
   have N7:=Lib.hid N7
   clear hK K hHeld hK7 hT7 HT e0 e6 e0d e6d X7 D7 T7 hs6
   (try simp only[Act.put,List.setIfInBounds_toArray,List.set_cons_zero,List.set_cons_succ])
   refine Reg.tk 6 rfl ?_
   refine Reg.tk 7 rfl ?_
   refine Reg.tk 8 rfl ?_
   refine Reg.tk 9 rfl ?_
   refine Reg.tk 10 rfl ?_
   refine Reg.tk 11 rfl ?_
   refine Reg.tk 12 rfl ?_
   refine wpAnyH_done (by kernel_rfl) ?_ _
   clear hHeld7
   go_wp2_with fail
   (try simp only[Exit.inBlock,Exit.then])
   refine bodyPost_ret_by (results_cell_row rfl _ _ w.heap.size _ _ _ _ rfl (Cells.set7 C7.out _ _ _ _ _ _ _) Tryz.underlying71 rfl (by kernel_rfl)) rfl ?_
   exact scanned_end hI.out hone.out hh.out HR.out.len L7.out N7.out (by have:=G1.out;have:=G2.out;have:=hF.out;omega) _ _ _ _ _ _ _
  ·rw[htk] at HT
   obtain⟨t5,t6,t7,t8⟩:=tk_one htk
   have hkn:used+k≤n:=by rw[List.length_drop] at t6;have:=HR.out.len;omega
   have HTR:=fun A n c w (h:Row cb w A n c y) (hn:n≤1000000)=>Lib.hid (takeRec_any h hn)
   rcases htr:takeRec y with _|r
   ·rw[htr] at HTR
    have hone:=Lib.hid (one_bad htk htr)
    clear htk htr t5 t6
    go_wp2_with fail
    refine wp_region_held_drew (S:=fun W=>W.cell? ⟨fb,0,none⟩=some (.pointer (some ⟨g,0,none⟩))∧W.cell? ⟨F,6,none⟩=some (.int .i64 (used:Int))) (by kernel_rfl) ⟨e0d,e6d⟩ (fun hHeld=> ?_)
    refine Reg.tk 0 rfl ?_
    refine Reg.tk 1 rfl ?_
    refine Reg.tk 2 rfl ?_
    refine Reg.tk 3 rfl ?_
    refine Reg.tk 4 rfl ?_
    refine Reg.step 5 rfl (by kernel_rfl) (by rfl) (fun K hK=> ?_)
    go_simp
    refine HT.out.mono ?_
    rintro e w7 ⟨⟨⟨Y,jy,dy,rfl,hO7⟩,hK7⟩,hT7⟩
    obtain⟨L7,X7,D7,C7,T7,N7⟩:=hI.out.keep ((Crc.Keep.refl g wr).drew.trans hK7) hT7 G1.out G2.out hF.out
    have hs6:=And.intro (X7.cell 0) (D7.cell 6)
    simp only[List.getElem?_toArray,List.getElem?_cons_zero,List.getElem?_cons_succ] at hs6
    refine hK.out _ _ hs6 (fun hHeld7=> ?_)
    have L7:=Lib.hid L7
    have X7:=Lib.hid X7
    have D7:=Lib.hid D7
    have C7:=Lib.hid C7
    have T7:=Lib.hid T7
    have N7:=Lib.hid N7
    have hjy:=hO7.len
    obtain⟨Y',dy',e5,hrow⟩:=hO7.row (by omega)
    obtain⟨rfl,-,rfl⟩:Y=Y'∧jy=jy∧dy=dy':=by simpa using e5
    have R7:=Lib.hid hrow
    clear hK K hHeld hK7 hT7 HT e0 e6 e0d e6d hs6 e5 hrow hO7
    (try simp only[Act.put,List.setIfInBounds_toArray,List.set_cons_zero,List.set_cons_succ])
    refine Reg.tk 6 rfl ?_
    refine Reg.tk 7 rfl ?_
    refine Reg.tk 8 rfl ?_
    refine Reg.tk 9 rfl ?_
    refine Reg.tk 10 rfl ?_
    refine Reg.tk 11 rfl ?_
    refine Reg.tk 12 rfl ?_
    refine wpAnyH_done (by kernel_rfl) ?_ _
    clear hHeld7
    go_wp2_with fail
    refine(HTR Y jy dy w7 R7.out (by omega)).out.mono ?_
    rintro e w8 hq8
    obtain⟨rfl,hb8⟩:e= .returned (.tuple #[.agg #[.int .i64 0,.int .i64 0,.int .i64 0,.int .i64 0,.int .i64 0,.int .i64 0,.slice none 0 0],.bool false])∧Below w7.heap.size w7 w8:=hq8
    have b9:Below w7.heap.size w7 (w8.alloc (.cells #[.int .i64 0,.int .i64 0,.int .i64 0,.int .i64 0,.int .i64 0,.int .i64 0,.slice none 0 0] 49)):=hb8.alloc hb8.size _
    have L9:=Lib.hid (L7.out.trans (b9.mono L7.out.size))
    have D9:=Lib.hid (Cells.below D7.out b9)
    have C9:=Lib.hid (Cells.below C7.out b9)
    have N9:=Lib.hid (N7.out.below b9)
    obtain⟨⟨c0,c1,c2,c3,c4,c5,c6⟩,f0,f1,f2,f3,f4,f5,f6⟩:=Cells.seven C9.out
    obtain⟨⟨d0,d1,d2,d3,d4,d5,d6⟩,-⟩:=Cells.seven D9.out
    clear b9 hb8 L7 X7 D7 C7 T7 N7 R7 HTR
    go_wp2_with fail
    (try simp only[Exit.inBlock,Exit.then])
    refine bodyPost_ret_by (results_cell_row rfl _ _ w.heap.size _ _ _ _ rfl (Cells.set7 C9.out _ _ _ _ _ _ _) Tryz.underlying71 rfl (by kernel_rfl)) rfl ?_
    exact scanned_end hI.out hone.out hh.out HR.out.len L9.out N9.out (by have:=G1.out;have:=G2.out;have:=hF.out;omega) _ _ _ _ _ _ _
   ·rw[htr] at HTR
    have hone:=Lib.hid (one_of htk htr)
    clear htk htr t5 t6
    go_wp2_with fail
    refine wp_region_held_drew (S:=fun W=>W.cell? ⟨fb,0,none⟩=some (.pointer (some ⟨g,0,none⟩))∧W.cell? ⟨F,6,none⟩=some (.int .i64 (used:Int))) (by kernel_rfl) ⟨e0d,e6d⟩ (fun hHeld=> ?_)
    refine Reg.tk 0 rfl ?_
    refine Reg.tk 1 rfl ?_
    refine Reg.tk 2 rfl ?_
    refine Reg.tk 3 rfl ?_
    refine Reg.tk 4 rfl ?_
    refine Reg.step 5 rfl (by kernel_rfl) (by rfl) (fun K hK=> ?_)
    go_simp
    refine HT.out.mono ?_
    rintro e w7 ⟨⟨⟨Y,jy,dy,rfl,hO7⟩,hK7⟩,hT7⟩
    obtain⟨L7,X7,D7,C7,T7,N7⟩:=hI.out.keep ((Crc.Keep.refl g wr).drew.trans hK7) hT7 G1.out G2.out hF.out
    have hs6:=And.intro (X7.cell 0) (D7.cell 6)
    simp only[List.getElem?_toArray,List.getElem?_cons_zero,List.getElem?_cons_succ] at hs6
    refine hK.out _ _ hs6 (fun hHeld7=> ?_)
    have L7:=Lib.hid L7
    have X7:=Lib.hid X7
    have D7:=Lib.hid D7
    have C7:=Lib.hid C7
    have T7:=Lib.hid T7
    have N7:=Lib.hid N7
    have hjy:=hO7.len
    obtain⟨Y',dy',e5,hrow⟩:=hO7.row (by omega)
    obtain⟨rfl,-,rfl⟩:Y=Y'∧jy=jy∧dy=dy':=by simpa using e5
    have R7:=Lib.hid hrow
    clear hK K hHeld hK7 hT7 HT e0 e6 e0d e6d hs6 e5 hrow hO7
    (try simp only[Act.put,List.setIfInBounds_toArray,List.set_cons_zero,List.set_cons_succ])
    refine Reg.tk 6 rfl ?_
    refine Reg.tk 7 rfl ?_
    refine Reg.tk 8 rfl ?_
    refine Reg.tk 9 rfl ?_
    refine Reg.tk 10 rfl ?_
    refine Reg.tk 11 rfl ?_
    refine Reg.tk 12 rfl ?_
    refine wpAnyH_done (by kernel_rfl) ?_ _
    clear hHeld7
    go_wp2_with fail
    refine(HTR Y jy dy w7 R7.out (by omega)).out.mono ?_
    rintro e w8 ⟨⟨D,nn,cc,rfl,hO8⟩,hb8⟩
    obtain rfl:nn=r.data.length:=hO8.len.symm
    unfold recV
    have b9:Below w7.heap.size w7 (w8.alloc (.cells #[.int .i64 r.kind,.int .i64 r.lba,.int .i64 r.n,.int .i64 r.ver,.int .i64 r.zone,.int .i64 r.off,.slice D r.data.length cc] 49)):=hb8.alloc hb8.size _
    have L9:=Lib.hid (L7.out.trans (b9.mono L7.out.size))
    have X9:=Lib.hid (Cells.below X7.out b9)
    have D9:=Lib.hid (Cells.below D7.out b9)
    have C9:=Lib.hid (Cells.below C7.out b9)
    have N9:=Lib.hid (N7.out.below b9)
    have T9:=Lib.hid (T7.out.below b9)
    have O9:=Lib.hid ((hO8.mono (base':=F+1) (Cells.lt D7.out)).alloc (.cells #[.int .i64 r.kind,.int .i64 r.lba,.int .i64 r.n,.int .i64 r.ver,.int .i64 r.zone,.int .i64 r.off,.slice D r.data.length cc] 49))
    have S9:=Lib.hid (Cells.lt D9.out)
    clear b9 hb8 hO8 L7 X7 D7 C7 T7 N7 R7 HTR
    obtain⟨⟨d0,d1,d2,d3,d4,d5,d6⟩,h0,h1,h2,h3,h4,h5,h6⟩:=Cells.seven D9.out
    have hacc:acc.length≤1000000:=by have:=hI.out.cnt;omega
    go_wp2_with (first
     |(at_builtin
       refine wpList_append_wide Tryz.underlying69 info_rec rfl (by decide) rfl (.tmp 57) (.tmp 59) rfl rfl (F+1) (.slice LA acc.length LC) acc.length (xs.flatMap cellsOf) rfl (N9.out.below ((Below.refl _ _).alloc (Nat.le_refl _) (.cells #[.int .i64 r.kind,.int .i64 r.lba,.int .i64 r.n,.int .i64 r.ver,.int .i64 r.zone,.int .i64 r.off,.slice D r.data.length cc] 49))).rows.1 _ 1 1 (cellsOf ⟨r,D,cc⟩) rfl rfl (rec_cells_new (w8.alloc (.cells #[.int .i64 r.kind,.int .i64 r.lba,.int .i64 r.n,.int .i64 r.ver,.int .i64 r.zone,.int .i64 r.off,.slice D r.data.length cc] 49)) ⟨r,D,cc⟩ _ (by simp)) (one_rec _) (by omega) (by omega) (by have:=S9.out;simp at this ⊢;omega) ?_
       intro A' c' w11 ho11 hb11 hoth11
       have P11:=Lib.hid (found_rows (k:=k) (N9.out.below ((Below.refl _ _).alloc (Nat.le_refl _) (.cells #[.int .i64 r.kind,.int .i64 r.lba,.int .i64 r.n,.int .i64 r.ver,.int .i64 r.zone,.int .i64 r.off,.slice D r.data.length cc] 49))) (O9.out.alloc (.cells #[.int .i64 r.kind,.int .i64 r.lba,.int .i64 r.n,.int .i64 r.ver,.int .i64 r.zone,.int .i64 r.off,.slice D r.data.length cc] 49)) ho11 hoth11)
       have Q11:=Lib.hid (((Below.refl F (w8.alloc (.cells #[.int .i64 r.kind,.int .i64 r.lba,.int .i64 r.n,.int .i64 r.ver,.int .i64 r.zone,.int .i64 r.off,.slice D r.data.length cc] 49))).alloc (Nat.le_of_lt S9.out) (.cells #[.int .i64 r.kind,.int .i64 r.lba,.int .i64 r.n,.int .i64 r.ver,.int .i64 r.zone,.int .i64 r.off,.slice D r.data.length cc] 49)).trans (hb11.mono (Nat.le_succ F)))
       have D11:Cells w11 F _ _:=(hb11.block F (Nat.lt_succ_self F)).trans (Cells.below D9.out ((Below.refl _ _).alloc (Nat.le_refl _) (.cells #[.int .i64 r.kind,.int .i64 r.lba,.int .i64 r.n,.int .i64 r.ver,.int .i64 r.zone,.int .i64 r.off,.slice D r.data.length cc] 49)))
       obtain⟨⟨i0,i1,i2,i3,i4,i5,i6⟩,j0,j1,j2,j3,j4,j5,j6⟩:=Cells.seven D11
       have E11:=Lib.hid D11
       have SF:Hid (F+1≤w11.heap.size):=Cells.lt D11
       clear ho11 hb11 hoth11 D11)
     |(at_builtin
       refine wpList_append_wide Tryz.underlying34 info_int rfl (by decide) rfl (.tmp 63) (.tmp 66) rfl rfl (F+1) (.slice AA acc.length AC) acc.length ((starts u0 acc).map ci) rfl ((Owns.setCell P11.out.2.1 (p:=⟨F,4,none⟩) (Nat.lt_succ_self F) (.slice A' (acc.length+1) c')).alloc (.cells #[.int .i64 (used:Int)] 3)) _ 1 1 [.int .i64 (used:Int)] rfl rfl (int_cell_new (w11.setCell ⟨F,4,none⟩ (.slice A' (acc.length+1) c')) _ _ (by simp)) (by intro u hu;simp at hu;subst hu;rfl) (by omega) (by omega) (by have:=SF.out;simp;omega) ?_
       intro A2 c2 w14 ho14 hb14 hoth14
       have Q14:=Lib.hid (((Q11.out.setCell (p:=⟨F,4,none⟩) (Nat.le_refl F) (.slice A' (acc.length+1) c')).alloc (by have:=SF.out;simp;omega) (.cells #[.int .i64 (used:Int)] 3)).trans (hb14.mono (Nat.le_succ F)))
       have D14:Cells w14 F _ _:=(hb14.block F (Nat.lt_succ_self F)).trans (Cells.below (E11.out.set_ 4 (.slice A' (acc.length+1) c')) ((Below.refl _ _).alloc (Nat.le_refl _) (.cells #[.int .i64 (used:Int)] 3)))
       simp only[List.setIfInBounds_toArray,List.set_cons_zero,List.set_cons_succ] at D14
       have N14:=Lib.hid (found_more P11.out (k:=k) hI.out.usedEq ho14 ((Below.refl _ _).alloc (Nat.le_refl _) (.cells #[.int .i64 (used:Int)] 3)) hoth14)
       obtain⟨⟨k0,k1,k2,k3,k4,k5,k6⟩,m0,m1,m2,m3,m4,m5,m6⟩:=Cells.seven D14
       have E14:=Lib.hid D14
       clear ho14 hb14 hoth14 D14))
    go_roundg (n-(used+k))
    case measure=>omega
    case rel=>
     refine⟨used+k,acc++ [(r,k)],.slice A' (acc.length+1) c',.slice A2 (acc.length+1) c2,xs++ [⟨r,D,cc⟩],rfl,?_⟩
     have D16:=(E14.out.set_ 5 (.slice A2 (acc.length+1) c2)).set_ 6 (.int .i64 ((used:Int)+(k:Int)))
     simp only[List.setIfInBounds_toArray,List.set_cons_zero,List.set_cons_succ] at D16
     have hG1:=G1.out
     have hG2:=G2.out
     have hGF:=hF.out
     exact SI.next hI.out hone.out hkn t8 L9.out X9.out C9.out T9.out ((Q14.out.setCell (p:=⟨F,5,none⟩) (Nat.le_refl F) _).setCell (p:=⟨F,6,none⟩) (Nat.le_refl F) _) (by rw[Int.natCast_add];exact D16) ((N14.out.setCell (p:=⟨F,5,none⟩) (Nat.lt_succ_self F) _).setCell (p:=⟨F,6,none⟩) (Nat.lt_succ_self F) _) hG1 hG2 hGF
end Seg
end
section
open Go.RowKit Mem
namespace Seg
open Wire
theorem RowR.seven {w:World} {A:Option Addr} {n c:Nat} {xs:List Rv} (h:RowR w A n c xs) {k:Nat} {x:Rv} (hx:xs[k]? =some x):∃b o,A=some ⟨b,o,none⟩∧b<w.heap.size∧
  ∀wr:World,wr.heap[b]? =w.heap[b]? →wr.cell? ⟨b,o+k*7,none⟩=some (.int .i64 x.r.kind)∧wr.cell? ⟨b,o+k*7+1,none⟩=some (.int .i64 x.r.lba)∧wr.cell? ⟨b,o+k*7+2,none⟩=some (.int .i64 x.r.n)∧wr.cell? ⟨b,o+k*7+3,none⟩=some (.int .i64 x.r.ver)∧
   wr.cell? ⟨b,o+k*7+4,none⟩=some (.int .i64 x.r.zone)∧wr.cell? ⟨b,o+k*7+5,none⟩=some (.int .i64 x.r.off)∧wr.cell? ⟨b,o+k*7+6,none⟩=some (.slice x.D x.r.data.length x.c):=by
 have hk:k<xs.length:=(List.getElem?_eq_some_iff.1 hx).1
 obtain⟨b,o,e,hb,hc⟩:=h.at_ (by have:=h.len;omega)
 refine⟨b,o,e,hb,fun wr hw=> ?_⟩
 have hcc:∀j v,(cellsOf x)[j]? =some v→wr.cell? ⟨b,o+(k*7+j),none⟩=some v:=fun j v hv=>(World.cell?_of_block hw).trans (hc k x hx j v hv)
 exact⟨hcc 0 _ rfl,hcc 1 _ rfl,hcc 2 _ rfl,hcc 3 _ rfl,hcc 4 _ rfl,hcc 5 _ rfl,hcc 6 _ rfl⟩
theorem recsB_at:∀(l:List Rc) (k:Nat) (r:Rc) (e:Nat),(∀r∈l.take k,check r=0)→l[k]? =some r→check r=e→e≠0→recsB l=([],e):=by
 intro l
 induction l with
 |nil=>intro k r e _ h;simp at h
 |cons a l ih=>
  intro k r e h1 h2 h3 h4
  rcases k with _|k
  ·simp only[List.getElem?_cons_zero,Option.some.injEq] at h2
   subst h2
   rw[recsB,if_neg (by omega),h3]
  ·have ha:=h1 a (by simp)
   rw[recsB,if_pos ha,ih k r e (fun x hx=>h1 x (by simp[hx])) (by simpa using h2) h3 h4]
   simp[h4]
def goods (l:List Rc):Prop:=∀r∈l,fits (nums r)
theorem seg_any {h:Hdr} {A:Option Addr} {n c:Nat} {xs:List Rv} {w:World} (hr:RowR w A n c xs) (hf:fits (hnums h)) (hfs:goods (xs.map Rv.r)) (hb:(frames (xs.map Rv.r)).length≤100000000000):
  Calls Tryz.prog 23 #[hdV h,.slice A n c] w (Gv w (segB h (xs.map Rv.r)).1 (segB h (xs.map Rv.r)).2):=by
 have HR:=Lib.hid hr
 have HN:=fun w=>Lib.hid (newFrames_any w)
 have HH:=fun g w (ht:Tk g 0 w)=>Lib.hid (head_any ht (by omega) hf)
 have hseg:Hid (segB h (xs.map Rv.r)=if nn (hnums h) then(let t:=recsB (xs.map Rv.r);if t.2=0 then(frame (headX h)++t.1,0) else([],t.2)) else([],1)):=rfl
 have HREC:=fun(g k:Nat) (w:World) (x:Rv) (hx:x∈xs) (ht:Tk g k w) (hk:k≤1000000000000000000) (h:RowO g w x.D x.r.data.length x.c x.r.data)=>Lib.hid (rec_any (n:=x.r.data.length) (c:=x.c) ht hk (hfs x.r (List.mem_map_of_mem hx)) h)
 have HB:=Lib.hid hb
 have hnbig:=hr.big
 unfold frV hdV recV at*
 generalize segB h (xs.map Rv.r)=sg at*
 clear hr hfs hb
 go_enter Tryz.func23,Tryz.ntmps23
 go_wp2_with fail
 have L1:=Lib.hid ((Below.refl w.heap.size w).alloc (Nat.le_refl _) (.cells #[.int .i64 h.host,.int .i64 h.epoch,.int .i64 h.seq] 68))
 have C1:Hid (Cells (w.alloc (.cells #[.int .i64 h.host,.int .i64 h.epoch,.int .i64 h.seq] 68)) w.heap.size 68 #[.int .i64 h.host,.int .i64 h.epoch,.int .i64 h.seq]):=heap_alloc_new w _
 generalize w.alloc (.cells #[.int .i64 h.host,.int .i64 h.epoch,.int .i64 h.seq] 68)=w1 at*
 refine(HN w1).out.mono ?_
 rintro e w2 ⟨g,hg,rfl,hT,hb2⟩
 have b3:Below w1.heap.size w1 (w2.alloc (.cells #[.pointer (some ⟨g,0,none⟩)] 104)):=hb2.alloc hb2.size _
 have L3:=Lib.hid (L1.out.trans (b3.mono L1.out.size))
 have C3:=Cells.below C1.out b3
 have T3:=Lib.hid (hT.alloc (.cells #[.pointer (some ⟨g,0,none⟩)] 104))
 have F3:Hid (Cells (w2.alloc (.cells #[.pointer (some ⟨g,0,none⟩)] 104)) w2.heap.size 104 #[.pointer (some ⟨g,0,none⟩)]):=heap_alloc_new w2 _
 have G1:Hid (w.heap.size<g):=Nat.lt_of_lt_of_le (Cells.lt C1.out) hg
 have G2:Hid (g<w2.heap.size):=hT.lt
 have c0:=C3.cell 0
 have c1:=C3.cell 1
 have c2:=C3.cell 2
 simp at c0 c1 c2
 clear b3 hb2 hT C1 L1 HN C3
 go_wp2_with fail
 generalize w2.alloc (.cells #[.pointer (some ⟨g,0,none⟩)] 104)=w3 at*
 generalize w2.heap.size=F at*
 have hS3:Hid (F+1≤w3.heap.size):=Cells.lt F3.out
 refine(HH g w3 T3.out).out.mono ?_
 rintro e w4 ⟨⟨B,j,d,rfl,hO4,hK4⟩,hT4⟩
 have L4:=Lib.hid (L3.out.trans (hK4.low (B:=w.heap.size) (Nat.le_of_lt G1.out) L3.out.size))
 have F4:Hid (Cells w4 F _ _):=Lib.hid ((Keep.block hK4 (Cells.lt F3.out) (Nat.ne_of_gt G2.out)).trans F3.out)
 have T4:=Lib.hid hT4
 have O4:=Lib.hid (hO4.mono (base':=F+1) hS3.out)
 clear hK4 hT4 hO4 L3 T3 F3 HH c0 c1 c2
 by_cases hn:nn (hnums h)
 ·have hB:headB h=(frame (headX h),0):=by unfold headB;rw[if_pos hn]
  rw[hB] at O4 ⊢
  have hlen:Hid ((frame (headX h)).length≤60):=by
   have h1:=headX_len h hf hn
   have h2:=frame_len (headX h)
   have h3:=enc_len_le (n:=(headX h).length) (by omega)
   show _≤_
   omega
  have HSeg:Hid (sg=(let t:=recsB (xs.map Rv.r);if t.2=0 then(frame (headX h)++t.1,0) else([],t.2))):=by show _=_;rw[hseg.out,if_pos hn]
  clear hB hseg hn
  go_wp2_with fail
  go_loopw [7,25] (fun s i wr=>∃(B:Option Addr) (j d k:Nat),s= .slice B j d∧i= .int .i64 k∧k≤n∧
   Hid (Below w.heap.size w wr∧Cells wr F 104 #[.pointer (some ⟨g,0,none⟩)]∧Tk g (k+1) wr∧Owns cb 5 (F+1) wr (.slice B j d) j (frame (headX h)++frames ((xs.map Rv.r).take k))∧∀r∈(xs.map Rv.r).take k,check r=0)) (fun _ i _=>n-(intOf i).toNat)
  case atStart=>exact⟨B,j,d,0,rfl,rfl,by omega,L4.out,F4.out,T4.out,by simpa [frames] using O4.out,by simp⟩
  case round=>
   clear L4 F4 T4 O4
   obtain⟨B,j,d,k,rfl,rfl,hk,hH⟩:=hrel
   by_cases hlt:k<n
   ·obtain⟨x,hx⟩:=HR.out.get hlt
    obtain⟨b0,o0,rfl,hb0,hcell⟩:=HR.out.seven hx
    obtain⟨q0,q1,q2,q3,q4,q5,q6⟩:=hcell wr (hH.out.1.block b0 hb0)
    have hxm:x∈xs:=List.mem_of_getElem? hx
    have HD:=Lib.hid (HR.out.data x hxm)
    have hxr:(xs.map Rv.r)[k]? =some x.r:=by rw[List.getElem?_map,hx];rfl
    have HX:=Lib.hid hxr
    have L5:=Lib.hid (hH.out.1.alloc hH.out.1.size (.cells #[.int .i64 x.r.kind,.int .i64 x.r.lba,.int .i64 x.r.n,.int .i64 x.r.ver,.int .i64 x.r.zone,.int .i64 x.r.off,.slice x.D x.r.data.length x.c] 49))
    have F5:=Cells.below hH.out.2.1 ((Below.refl _ wr).alloc (Nat.le_refl _) (.cells #[.int .i64 x.r.kind,.int .i64 x.r.lba,.int .i64 x.r.n,.int .i64 x.r.ver,.int .i64 x.r.zone,.int .i64 x.r.off,.slice x.D x.r.data.length x.c] 49))
    have T5:=Lib.hid (hH.out.2.2.1.alloc (.cells #[.int .i64 x.r.kind,.int .i64 x.r.lba,.int .i64 x.r.n,.int .i64 x.r.ver,.int .i64 x.r.zone,.int .i64 x.r.off,.slice x.D x.r.data.length x.c] 49))
    have O5:=Lib.hid (hH.out.2.2.2.1.alloc (.cells #[.int .i64 x.r.kind,.int .i64 x.r.lba,.int .i64 x.r.n,.int .i64 x.r.ver,.int .i64 x.r.zone,.int .i64 x.r.off,.slice x.D x.r.data.length x.c] 49))
    have c0:=F5.cell 0
    simp at c0
    have R5:Hid (RowO g (wr.alloc (.cells #[.int .i64 x.r.kind,.int .i64 x.r.lba,.int .i64 x.r.n,.int .i64 x.r.ver,.int .i64 x.r.zone,.int .i64 x.r.off,.slice x.D x.r.data.length x.c] 49)) x.D x.r.data.length x.c x.r.data):=by
     have h0:=RowO.of_low HD.out (Nat.le_of_lt G1.out)
     exact⟨HD.out.below L5.out,h0.off⟩
    have K5:Hid (k+1≤1000000000000000000):=by have:=HR.out.big;show _≤_;omega
    have hrec:=Lib.hid ((HREC g (k+1) _ x hxm T5.out K5.out R5.out).out)
    have F5:=Lib.hid F5
    clear hcell hx hxr hxm HREC
    generalize hrb:recB x.r=rb at*
    have HRB:=Lib.hid hrb
    clear hrb
    rcases check_le x.r with hc|hc|hc
    ·have hrb2:rb=(frame (recX x.r),0):=by rw[←HRB.out];unfold recB;rw[if_pos hc]
     subst hrb2
     have hbound:Hid (j+(frame (recX x.r)).length≤200000000000):=by
      have h1:=hH.out.2.2.2.1.len
      rw[List.length_append] at h1
      have h2:=hlen.out
      have h3:=frames_mono (xs.map Rv.r) (show k+1≤(xs.map Rv.r).length by have:=(List.getElem?_eq_some_iff.1 HX.out).1;omega)
      rw[List.take_length] at h3
      rw[List.take_add_one,HX.out,frames_append,List.length_append] at h3
      have h4:(frames (some x.r).toList).length=(frame (recX x.r)).length:=by simp[frames]
      have:=HB.out
      show _≤_
      omega
     clear HRB
     go_wp2_with fail
     refine hrec.out.mono ?_
     rintro e w6 ⟨⟨X,j6,d6,rfl,hO6,hK6⟩,hT6⟩
     have L6:=Lib.hid (L5.out.trans (hK6.low (B:=w.heap.size) (Nat.le_of_lt G1.out) L5.out.size))
     have F6:Hid (Cells w6 F _ _):=Lib.hid ((Keep.block hK6 (Cells.lt F5.out) (Nat.ne_of_gt G2.out)).trans F5.out)
     have O6:=Lib.hid (Owns.keepG O5.out (Nat.lt_succ_of_lt G2.out) hK6)
     have T6:=Lib.hid hT6
     have hj6:(frame (recX x.r)).length=j6:=hO6.len
     obtain⟨X',d',e5,hrow⟩:=hO6.row (by have:=hbound.out;omega)
     obtain⟨rfl,-,rfl⟩:X=X'∧j6=j6∧d6=d':=by simpa using e5
     have R6:=Lib.hid hrow
     have hbd:Hid (j+j6≤200000000000):=by rw[←hj6];exact hbound
     have hS6:Hid (F+1≤w6.heap.size):=Cells.lt F6.out
     clear hrec hO6 hK6 hT6 c0 F5 T5 O5 R5 L5 q0 q1 q2 q3 q4 q5 q6 e5 hrow hj6 hbound
     go_wp2_with (at_builtin;refine wpList_append_row cb_one Tryz.underlying37 info_byte rfl rfl (.tmp 38) (.tmp 39) rfl rfl (F+1) (.slice B j d) j _ rfl O6.out X j6 d6 _ rfl R6.out (by have:=hbd.out;omega) (by have:=hbd.out;omega) hS6.out ?_;intro A7 c7 w7 hown7 hb7;have O7:=Lib.hid hown7;have Q7:=Lib.hid hb7;clear hown7 hb7)
     go_roundw
     case rel=>
      have hG1:=G1.out
      have hG2:=G2.out
      refine⟨A7,j+j6,c7,k+1,rfl,by go_num,by omega,L6.out.trans (Q7.out.mono (by omega)),(Q7.out.block F (by omega)).trans F6.out,T6.out.heap (Q7.out.block g (by omega)),?_,?_⟩
      ·have:=O7.out
       rw[List.append_assoc] at this
       rw[List.take_add_one,HX.out,frames_append]
       simpa [frames] using this
      ·intro r hr
       rw[List.take_add_one,HX.out] at hr
       rcases List.mem_append.1 hr with hr|hr
       ·exact hH.out.2.2.2.2 r hr
       ·simp at hr;subst hr;exact hc
     case measure=>simp[intOf];omega
    ·have hrb2:rb=([],1):=by rw[←HRB.out];unfold recB;rw[if_neg (by omega),hc]
     have hsg:Hid (sg=([],1)):=by
      show _=_
      rw[HSeg.out,recsB_at _ k x.r 1 hH.out.2.2.2.2 HX.out hc (by omega)]
      simp
     subst hrb2
     clear HRB
     go_wp2_with fail
     refine hrec.out.mono ?_
     rintro e w6 ⟨⟨X,j6,d6,rfl,hO6,hK6⟩,hT6⟩
     have L6:=Lib.hid (L5.out.trans (hK6.low (B:=w.heap.size) (Nat.le_of_lt G1.out) L5.out.size))
     clear hrec hO6 hK6 hT6 c0 F5 T5 O5 R5 q0 q1 q2 q3 q4 q5 q6
     go_wp2_with fail
     go_ret2
     rw[hsg.out]
     exact⟨_,_,_,rfl,Owns.nil _ _ _ _,L6.out⟩
    ·have hrb2:rb=([],2):=by rw[←HRB.out];unfold recB;rw[if_neg (by omega),hc]
     have hsg:Hid (sg=([],2)):=by
      show _=_
      rw[HSeg.out,recsB_at _ k x.r 2 hH.out.2.2.2.2 HX.out hc (by omega)]
      simp
     subst hrb2
     clear HRB
     go_wp2_with fail
     refine hrec.out.mono ?_
     rintro e w6 ⟨⟨X,j6,d6,rfl,hO6,hK6⟩,hT6⟩
     have L6:=Lib.hid (L5.out.trans (hK6.low (B:=w.heap.size) (Nat.le_of_lt G1.out) L5.out.size))
     clear hrec hO6 hK6 hT6 c0 F5 T5 O5 R5 q0 q1 q2 q3 q4 q5 q6
     go_wp2_with fail
     go_ret2
     rw[hsg.out]
     exact⟨_,_,_,rfl,Owns.nil _ _ _ _,L6.out⟩
   ·have hkn:(xs.map Rv.r).take k=xs.map Rv.r:=List.take_of_length_le (by have:=HR.out.len;simp;omega)
    have hE:=hH.out
    rw[hkn] at hE
    have hsg:Hid (sg=(frame (headX h)++frames (xs.map Rv.r),0)):=by
     show _=_
     rw[HSeg.out,recsB_ok _ hE.2.2.2.2]
     simp
    have O8:=Lib.hid hE.2.2.2.1
    have L8:=Lib.hid hE.1
    clear hkn hE
    go_wp2_with fail
    go_ret2
    rw[hsg.out]
    exact⟨_,_,_,rfl,O8.out.mono (by have:=G1.out;have:=G2.out;omega),L8.out⟩
 ·have hB:headB h=([],1):=by unfold headB;rw[if_neg hn]
  have HSeg:Hid (sg=([],1)):=by show _=_;rw[hseg.out,if_neg hn]
  rw[hB] at O4 ⊢
  clear hB hseg hn
  go_wp2_with fail
  go_ret2
  rw[HSeg.out]
  exact⟨_,_,_,rfl,Owns.nil _ _ _ _,L4.out⟩
end Seg
end
section
open Go.RowKit Mem
namespace Seg
open Wire
def fndV (hd:Bool) (h:Hdr) (L At:Value) (u:Int):Value:= .agg #[.bool hd,.int .i64 h.host,.int .i64 h.epoch,.int .i64 h.seq,L,At,.int .i64 u]
end Seg
end
section
open Go.RowKit Mem
namespace Seg
open Wire
theorem headAt_seg (h:Hdr) (hf:fits (hnums h)) (hn:nn (hnums h)) (rest:List B8):headAt (frame (headX h)++rest)=some (h,(frame (headX h)).length):=by
 unfold headAt
 rw[tk_frame _ rest (by have:=headX_len h hf hn;omega)]
 simp only[takeHead_headX h hf hn]
theorem sized_total (l:List Rc):total (sized l)=(frames l).length:=by
 induction l with
 |nil=>rfl
 |cons r l ih=>
  rw[frames_cons,List.length_append,←ih]
  simp[total,sized]
theorem sized_fst (l:List Rc):(sized l).map (·.1)=l:=by simp[sized,Function.comp_def]
theorem sized_len (l:List Rc):(sized l).length=l.length:=by simp[sized]
def Fnd (h:Hdr) (u0:Nat) (b:List B8) (w:World) (en:Ending) (w':World):Prop:=
 ∃acc xs LA LC AA AC,Scans (b.drop u0) acc∧u0+total acc≤b.length∧en= .returned (.agg #[.bool true,.int .i64 h.host,.int .i64 h.epoch,.int .i64 h.seq,.slice LA acc.length LC,.slice AA acc.length AC,.int .i64 ((u0+total acc:Nat):Int)])∧
  RowR w' LA acc.length LC xs∧Row ci w' AA acc.length AC (starts u0 acc)∧xs.map Rv.r=acc.map (·.1)∧Below w.heap.size w w'
def exH:Hdr:=⟨1,2,3⟩
def exR:Rc:=⟨2,4,5,6,0,0,[]⟩
end Seg
end
section
open Go.ChangeShapes Go.WideShapes Go.ChangeAt Go.RowKit Mem
namespace Args
open Seg Wire
variable {H:Type} {enc:TypeId × Value→H} {W:World}
end Args
end
section
open Go.RowKit Mem
namespace Seg
open Wire
def bulkR (l:List Rc):Int:=l.foldl (fun z r=>wrap64 (z+((r.data.length:Int)+20))) 0
def weigh (l:List Rc):Nat:=(l.map fun r=>r.data.length+20).sum
end Seg
end
section
open Go.RowKit Mem
namespace Seg
open Wire
theorem frame_ge (x:List B8):5≤(frame x).length:=by
 have h1:=frame_len x
 have h2:=enc_pos x.length
 omega
end Seg
end
section
open Go.RowKit Mem
namespace Seg
open Wire
def FndL (h:Hdr) (u0:Nat) (l:List Rc) (w:World) (en:Ending) (w':World):Prop:=
 ∃ys LA LC AA AC,en= .returned (.agg #[.bool true,.int .i64 h.host,.int .i64 h.epoch,.int .i64 h.seq,.slice LA l.length LC,.slice AA l.length AC,.int .i64 ((u0+(frames l).length:Nat):Int)])∧
  RowR w' LA l.length LC ys∧Row ci w' AA l.length AC (starts u0 (sized l))∧ys.map Rv.r=l∧Below w.heap.size w w'
def kept (u0:Nat) (l:List Rc) (C:Nat):Nat:=if u0≤C then whole l (C-u0) else 0
def FndC (u0:Nat) (l:List Rc) (C:Nat) (w:World) (en:Ending) (w':World):Prop:=
 ∃(hb:Bool) (a0 a1 a2:Int) (U:Nat) (ys:List Rv) (LA:Option Addr) (LC:Nat) (AA:Option Addr) (AC:Nat),en= .returned (.agg #[.bool hb,.int .i64 a0,.int .i64 a1,.int .i64 a2,.slice LA (kept u0 l C) LC,.slice AA (kept u0 l C) AC,.int .i64 (U:Int)])∧
  RowR w' LA (kept u0 l C) LC ys∧ys.map Rv.r=l.take (kept u0 l C)∧hb=decide (u0≤C)∧U≤C∧(C<u0→kept u0 l C=0∧U=0)∧Below w.heap.size w w'
end Seg
end
section
namespace Pk
open Seg Wire
structure Pp where
 h:Hdr
 zone:Int
 cap:Int
 at_:Int
 buf:List B8
 l:List Rc
def zeroP:Pp:=⟨⟨0,0,0⟩,0,0,0,[],[]⟩
def flen (r:Rc):Nat:=(frame (recX r)).length
def placeR (r:Rc):Int:=(flen r:Int)-4-(r.data.length:Int)
def places:Int→List Rc→List Int
 |_,[]=> []
 |e,r::l=>(e+placeR r)::places (e+(flen r:Int)) l
def roomP (p:Pp):Int:=max 0 (p.cap-(p.at_+(p.buf.length:Int)))
def errB (l:List Rc):Nat:=(recsB l).2
def fitsP (p:Pp) (l:List Rc):Prop:=p.at_+(p.buf.length:Int)+((frames l).length:Int)≤p.cap
instance (p:Pp) (l:List Rc):Decidable (fitsP p l):=by unfold fitsP;infer_instance
def moreP (p:Pp) (l:List Rc):Pp:=⟨p.h,p.zone,p.cap,p.at_,p.buf++frames l,p.l++l⟩
def addP (p:Pp) (l:List Rc):Pp × List Int × Nat:=
 if errB l=0 then(if fitsP p l then(moreP p l,places (p.at_+(p.buf.length:Int)) l,0) else(zeroP,[],40)) else(zeroP,[],errB l)
def behindP (p:Pp):Pp:=⟨p.h,p.zone,p.cap,p.at_+(p.buf.length:Int),[],[]⟩
structure OkP (p:Pp):Prop where
 at0:0≤p.at_
 room:p.at_+(p.buf.length:Int)≤p.cap
 cap:p.cap≤65536
 few:p.l.length≤p.buf.length
 data:∀r∈p.l,check r=0
theorem flen_ge (r:Rc):5≤flen r:=frame_ge _
theorem frames_nil:frames []= []:=rfl
theorem frames_one (r:Rc):(frames [r]).length=flen r:=by simp[frames,flen]
theorem frames_ge:∀l:List Rc,5*l.length≤(frames l).length
 | []=>by simp
 |r::l=>by
  have h1:=frames_ge l
  have h2:=flen_ge r
  rw[frames_cons,List.length_append,List.length_cons]
  unfold flen at h2
  omega
theorem frames_len_cons (r:Rc) (l:List Rc):(frames (r::l)).length=flen r+(frames l).length:=by rw[frames_cons,List.length_append];rfl
theorem flen_le {r:Rc} (hf:fits (nums r)) (h:check r=0):flen r≤40100:=by
 have h1:=recX_len hf h
 have h2:=frame_len (recX r)
 have h3:=enc_len_le (n:=(recX r).length) (by omega)
 unfold flen
 omega
theorem recX_ge (r:Rc):r.data.length≤(recX r).length:=by
 unfold recX encV
 simp only[List.length_append]
 omega
theorem placeR_ge (r:Rc):0≤placeR r:=by
 have h1:=frame_len (recX r)
 have h2:=recX_ge r
 unfold placeR flen
 omega
theorem placeR_le (r:Rc):placeR r+(r.data.length:Int)+4=(flen r:Int):=by unfold placeR;omega
theorem place_data (r:Rc):((frame (recX r)).drop (placeR r).toNat).take r.data.length=r.data:=by
 have h1:=frame_len (recX r)
 have e:frame (recX r)=(enc (recX r).length++encs ((nums r).map Int.toNat)++enc r.data.length)++(r.data++Seg.enc4 (sumOf (recX r))):=by
  unfold frame
  rw[show encV (recX r)=enc (recX r).length++recX r from rfl,show recX r=encs ((nums r).map Int.toNat)++encV r.data from rfl,show encV r.data=enc r.data.length++r.data from rfl]
  simp only[List.append_assoc]
 have hl:(placeR r).toNat=(enc (recX r).length++encs ((nums r).map Int.toNat)++enc r.data.length).length:=by
  have h4:=congrArg List.length e
  have h5:(r.data++Seg.enc4 (sumOf (recX r))).length=r.data.length+4:=by rw[List.length_append,Seg.enc4_len]
  rw[List.length_append,h5] at h4
  unfold placeR flen
  omega
 rw[hl,e,List.drop_left,List.take_left]
theorem places_append:∀(l m:List Rc) (e:Int),places e (l++m)=places e l++places (e+((frames l).length:Int)) m
 | [],m,e=>by simp[places,frames_nil]
 |r::l,m,e=>by
  rw[List.cons_append,places,places,places_append l m,frames_len_cons,List.cons_append]
  congr 2
  congr 1
  rw[Int.natCast_add]
  omega
theorem places_one (r:Rc) (e:Int):places e [r]= [e+placeR r]:=rfl
theorem places_snoc (l:List Rc) (r:Rc) (e:Int):places e (l++ [r])=places e l++ [e+((frames l).length:Int)+placeR r]:=by rw[places_append,places_one]
theorem errB_ok {l:List Rc} (h:∀r∈l,check r=0):errB l=0:=by unfold errB;rw[recsB_ok l h]
theorem errB_zero {l:List Rc} (h:errB l=0):∀r∈l,check r=0:=by
 rcases hr:recsB l with⟨b,e⟩
 unfold errB at h
 rw[hr] at h
 rcases recsB_bad l b e hr with⟨_,h1⟩|⟨h1,_⟩
 ·exact h1
 ·exact absurd h h1
theorem errB_one (r:Rc):errB [r]=check r:=by
 unfold errB recsB recsB
 by_cases h:check r=0
 ·rw[if_pos h,h];rfl
 ·rw[if_neg h]
theorem errB_at {l:List Rc} {k:Nat} {r:Rc} {e:Nat} (h1:∀r∈l.take k,check r=0) (h2:l[k]? =some r) (h3:check r=e) (h4:e≠0):errB l=e:=by
 unfold errB
 rw[recsB_at l k r e h1 h2 h3 h4]
theorem addP_ok {p:Pp} {l:List Rc} (h1:errB l=0) (h2:fitsP p l):addP p l=(moreP p l,places (p.at_+(p.buf.length:Int)) l,0):=by unfold addP;rw[if_pos h1,if_pos h2]
theorem addP_full {p:Pp} {l:List Rc} (h1:errB l=0) (h2:¬fitsP p l):addP p l=(zeroP,[],40):=by unfold addP;rw[if_pos h1,if_neg h2]
theorem addP_bad {p:Pp} {l:List Rc} (h1:errB l≠0):addP p l=(zeroP,[],errB l):=by unfold addP;rw[if_neg h1]
theorem OkP.more {p:Pp} (h:OkP p) {l:List Rc} (h1:errB l=0) (h2:fitsP p l):OkP (moreP p l):=by
 have h3:=frames_ge l
 have h4:=h.few
 refine⟨h.at0,?_,h.cap,?_,fun r hr=> ?_⟩
 ·unfold fitsP at h2
  show p.at_+(((p.buf++frames l).length:Nat):Int)≤p.cap
  rw[List.length_append]
  omega
 ·show(p.l++l).length≤(p.buf++frames l).length
  simp only[List.length_append]
  omega
 ·rcases List.mem_append.1 hr with hr|hr
  ·exact h.data r hr
  ·exact errB_zero h1 r hr
theorem OkP.behind {p:Pp} (h:OkP p):OkP (behindP p):=by
 have:=h.at0
 refine⟨?_,?_,h.cap,Nat.le_refl _,by simp[behindP]⟩
 ·show 0≤p.at_+(p.buf.length:Int)
  omega
 ·show p.at_+(p.buf.length:Int)+((0:Nat):Int)≤p.cap
  have:=h.room
  omega
theorem OkP.buf_le {p:Pp} (h:OkP p):p.buf.length≤65536:=by have:=h.at0;have:=h.room;have:=h.cap;omega
theorem OkP.at_le {p:Pp} (h:OkP p):p.at_≤65536:=by have:=h.room;have:=h.cap;omega
theorem OkP.l_le {p:Pp} (h:OkP p):p.l.length≤65536:=Nat.le_trans h.few h.buf_le
theorem OkP.roomP {p:Pp} (h:OkP p):roomP p=p.cap-(p.at_+(p.buf.length:Int)):=by unfold Pk.roomP;have:=h.room;omega
theorem moreP_nil (p:Pp):moreP p []=p:=by unfold moreP;simp[frames_nil]
theorem fitsP_nil {p:Pp} (h:OkP p):fitsP p []:=by unfold fitsP;have:=h.room;simp[frames_nil];omega
theorem fitsP_snoc (p:Pp) (l:List Rc) (r:Rc):fitsP p (l++ [r])↔p.at_+((p.buf.length:Int)+((frames l).length:Int))+(flen r:Int)≤p.cap:=by
 unfold fitsP
 rw[frames_append,List.length_append,frames_one]
 omega
theorem fitsP_left {p:Pp} {l m:List Rc} (h:fitsP p (l++m)):fitsP p l:=by
 unfold fitsP at*
 rw[frames_append,List.length_append] at h
 omega
def mayZ (zone most:Int):Prop:=0≤zone∧1≤most∧most≤65536
instance (z m:Int):Decidable (mayZ z m):=by unfold mayZ;infer_instance
instance nnDec (l:List Int):Decidable (nn l):=by unfold nn;infer_instance
def beginP (h:Hdr) (zone most:Int):Pp × Nat:=
 if nn (hnums h) then(if mayZ zone most then(if((frame (headX h)).length:Int)≤most then(⟨h,zone,most,0,frame (headX h),[]⟩,0) else(zeroP,40)) else(zeroP,1)) else(zeroP,1)
theorem head_len {h:Hdr} (hf:fits (hnums h)) (hn:nn (hnums h)):(frame (headX h)).length≤100:=by
 have h1:=headX_len h hf hn
 have h2:=frame_len (headX h)
 have h3:=enc_len_le (n:=(headX h).length) (by omega)
 omega
end Pk
end
section
open Go.RowKit Mem
namespace OwnS
structure Fit {α:Type} (cells:α→List Value) (k:Nat):Prop where
 pos:0<k
 len:∀x,(cells x).length=k
 one:∀x,∀u∈cells x,u.oneCell'=true
variable {α:Type} {cells:α→List Value} {k:Nat}
theorem flat_len (F:Fit cells k) (xs:List α):(xs.flatMap cells).length=xs.length*k:=by
 induction xs with
 |nil=>simp
 |cons x xs ih=>rw[List.flatMap_cons,List.length_append,ih,F.len,List.length_cons,Nat.succ_mul];omega
theorem flat_one (F:Fit cells k) (xs:List α):∀u∈xs.flatMap cells,u.oneCell'=true:=by
 intro u hu
 obtain⟨x,_,hx⟩:=List.mem_flatMap.1 hu
 exact F.one x u hx
theorem flat_get (F:Fit cells k) (xs:List α) (i j:Nat) (x:α) (v:Value) (hx:xs[i]? =some x) (hv:(cells x)[j]? =some v):(xs.flatMap cells)[i*k+j]? =some v:=by
 induction xs generalizing i with
 |nil=>simp at hx
 |cons y xs ih=>
  have hj:j<k:=by have:=(List.getElem?_eq_some_iff.1 hv).1;rwa [F.len] at this
  rw[List.flatMap_cons]
  rcases i with _|i
  ·simp only[List.getElem?_cons_zero,Option.some.injEq] at hx
   subst hx
   rw[Nat.zero_mul,Nat.zero_add,List.getElem?_append_left (by rw[F.len];exact hj)]
   exact hv
  ·rw[Nat.succ_mul,List.getElem?_append_right (by rw[F.len];omega),F.len]
   rw[show i*k+k+j-k=i*k+j by omega]
   exact ih i (by simpa using hx)
theorem flat_inv (F:Fit cells k) (xs:List α) (q:Nat) (v:Value) (h:(xs.flatMap cells)[q]? =some v):∃x,xs[q/k]? =some x∧(cells x)[q%k]? =some v:=by
 have hl:q<xs.length*k:=by rw[←flat_len F];exact(List.getElem?_eq_some_iff.1 h).1
 have hlt:q/k<xs.length:=(Nat.div_lt_iff_lt_mul F.pos).2 hl
 have hx:xs[q/k]? =some xs[q/k]:=List.getElem?_eq_getElem hlt
 have hm:q%k<(cells xs[q/k]).length:=by rw[F.len];exact Nat.mod_lt _ F.pos
 obtain⟨u,hu⟩:∃u,(cells xs[q/k])[q%k]? =some u:=⟨_,List.getElem?_eq_getElem hm⟩
 have:=flat_get F xs (q/k) (q%k) _ u hx hu
 rw[show q/k*k+q%k=q by rw[Nat.mul_comm];exact Nat.div_add_mod q k,h] at this
 injection this with this
 exact⟨_,hx,by rw[this];exact hu⟩
theorem row_flat (F:Fit cells k) {w:World} {A:Option Addr} {n c:Nat} {l:List α} (h:RowS cells k w A n c l) {b o:Nat} (hA:A=some ⟨b,o,none⟩):∀j u,(l.flatMap cells)[j]? =some u→w.cell? ⟨b,o+j,none⟩=some u:=by
 intro j u hj
 obtain⟨x,hx,hu⟩:=flat_inv F l j u hj
 have hn:j/k<l.length:=(List.getElem?_eq_some_iff.1 hx).1
 obtain⟨b',o',e,-,hc⟩:=h.at_ (Nat.lt_of_le_of_lt (Nat.zero_le _) (h.len▸hn))
 rw[hA] at e
 injection e with e
 injection e with e1 e2
 subst e1 e2
 have:=hc (j/k) x hx (j%k) u hu
 rwa [show o+j/k*k+j%k=o+j by rw[Nat.add_assoc,Nat.mul_comm,Nat.div_add_mod]] at this
def Owns (cells:α→List Value) (k:Nat) (e:TypeId) (base:Nat) (w:World) (s:Value) (n:Nat) (xs:List α):Prop:=w.ownsRow base e k s n (xs.flatMap cells)∧xs.length=n
section
variable {e:TypeId} {base:Nat} {w w':World} {s:Value} {n:Nat} {xs:List α}
theorem Owns.nil (cells:α→List Value) (k:Nat) (e:TypeId) (base:Nat) (w:World):Owns cells k e base w (.slice none 0 0) 0 []:=⟨World.ownsRow_nil _ _ _ _,rfl⟩
theorem Owns.kept {row:Option Nat} (h:Owns cells k e base w s n xs) (hg:w.grownBy w' row) (hne:s.ownBlock=none∨s.ownBlock≠row):Owns cells k e base w' s n xs:=⟨World.ownsRow.kept h.1 hg hne,h.2⟩
theorem Owns.below (h:Owns cells k e base w s n xs) (hb:Below w.heap.size w w'):Owns cells k e base w' s n xs:=by
 refine⟨⟨h.1.1,?_⟩,h.2⟩
 rcases h.1.2 with hn|⟨q,cap,cur,e',hbg,hq,r⟩
 ·exact .inl hn
 ·exact .inr ⟨q,cap,cur,e',hbg,(hb.block _ (Array.getElem?_eq_some_iff.1 hq).1).trans hq,r⟩
theorem Owns.alloc (h:Owns cells k e base w s n xs) (o:Obj):Owns cells k e base (w.alloc o) s n xs:=h.below ((Below.refl _ w).alloc (Nat.le_refl _) o)
theorem Owns.drew (h:Owns cells k e base w s n xs):Owns cells k e base w.drew s n xs:=h.below (Below.refl _ w).drew
theorem Owns.slice (h:Owns cells k e base w s n xs):∃A c,s= .slice A n c:=by
 rcases h.1.2 with⟨rfl,rfl⟩|⟨g,cap,cur,rfl,_⟩
 ·exact⟨none,0,rfl⟩
 ·exact⟨_,_,rfl⟩
theorem Owns.row (F:Fit cells k) {A:Option Addr} {c:Nat} (h:Owns cells k e base w (.slice A n c) n xs) (hn:n≤140737488351232):RowS cells k w A n c xs:=by
 rcases h.1.2 with⟨e,h0⟩|⟨g,cap,cur,e,_,hg,hnc,hcm,hs,ht⟩
 ·subst h0
  injection e with e1 _ e3
  subst e1 e3
  exact⟨h.2,by omega,by omega,fun h=>absurd h (by omega)⟩
 ·injection e with e1 _ e3
  subst e1 e3
  refine⟨h.2,hnc,hn,fun _=>⟨g,0,rfl,(Array.getElem?_eq_some_iff.1 hg).1,fun i x hx j v hv=> ?_⟩⟩
  have:=World.ownsRow.cells (g:=g) (h.1:w.ownsRow base _ k _ n (xs.flatMap cells)) rfl (i*k+j) v (flat_get F xs i j x v hx hv)
  simpa [Mem.add_none,Nat.add_assoc] using this
theorem Owns.lt (h:Owns cells k e base w s n xs):∀q,s.ownBlock=some q→base≤q∧q<w.heap.size:=World.ownsRow.lt h.1
theorem below_row (h:Owns cells k e base w s n xs) (hg:w.grownBy w' s.ownBlock) (hb:base≤w.heap.size):Below base w w':=
 (Below.refl base w).grown hg hb (fun q hk=>(h.lt q hk).1)
end
theorem run_append {P:Program} (F:Fit cells k) {t e:TypeId} (ht:P.underlying t=some (.slice e)) {z:Value} {bytes:Nat} (hinfo:(P.info? e).map (fun i=>(i.zero,i.size,i.bytes))=some (some z,k,bytes)) (hzs:z.cells.size=k) (hb1:bytes≤256)
  (w:World) (base:Nat) (s:Value) (n:Nat) (l:List α) (hown:Owns cells k e base w s n l) (A:Option Addr) (m c:Nat) (l':List α) (hx:RowS cells k w A m c l') (hbig:n+m≤1099511627) (hbase:base≤w.heap.size):
  ∃s' w',(Builtin.append_ #[t,t] t #[s,.slice A m c]).run P w= .ok s' w'∧Owns cells k e base w' s' (n+m) (l++l')∧w.grownBy w' s.ownBlock∧(s'.ownBlock=s.ownBlock∨s'.ownBlock=some w.heap.size):=by
 obtain⟨i,hi,hz0,hz1,hz2⟩:=info_parts hinfo
 rcases A with _|ad
 ·have hm:m=0:=by
    rcases Nat.eq_zero_or_pos m with h0|h0
    ·exact h0
    ·obtain⟨b,o,e,_⟩:=hx.at_ h0
     cases e
  have hl:l'= []:=List.eq_nil_of_length_eq_zero (by rw[hx.len,hm])
  subst hm hl
  refine⟨s,w,?_,by simpa using hown,⟨rfl,rfl,rfl,Nat.le_refl _,fun _ _ _=>rfl⟩,.inl rfl⟩
  rcases hown.1.2 with⟨rfl,rfl⟩|⟨b,cap,cur,rfl,_,_,hnc,_⟩
  ·simp[Builtin.append_,run_underlying ht,sizeOf,typeInfo,hi,Builtin.lenOf,Builtin.firstCells]
  ·simp[Builtin.append_,run_underlying ht,sizeOf,typeInfo,hi,Builtin.lenOf,Builtin.firstCells,hnc,storeCells]
 ·have hcells:∀j q,(l'.flatMap cells)[j]? =some q→w.cell? (ad.add j)=some q:=by
    intro j q hq
    have hlt:j<(l'.flatMap cells).length:=(List.getElem?_eq_some_iff.1 hq).1
    rw[flat_len F] at hlt
    obtain⟨b,o,e,_⟩:=hx.at_ (by have:=hx.len;rcases Nat.eq_zero_or_pos m with h0|h0; · rw[this,h0,Nat.zero_mul] at hlt;omega
                                ·exact h0)
    have:=row_flat F hx e j q hq
    injection e with e
    subst e
    rw[Mem.add_none]
    exact this
  have hby:(n+m)*bytes≤140737488355328:=Nat.le_trans (Nat.mul_le_mul_left _ hb1) (by omega)
  obtain⟨s',w',hrun,h2,h3,-,h5⟩:=run_append_own_at (P:=P) w base t t e i _ k bytes ht hi hz0 hz1 hz2 hzs F.pos s n _ hown.1 ad m c (l'.flatMap cells) (by rw[flat_len F,hx.len]) hcells (flat_one F l') (by unfold maxLen;omega) hby hbase
  exact⟨s',w',hrun,⟨by rw[List.flatMap_append];exact h2,by rw[List.length_append,hown.2,hx.len]⟩,h3,h5⟩
theorem wpList_append {P:Program} (F:Fit cells k) {t e:TypeId} (ht:P.underlying t=some (.slice e)) {z:Value} {bytes:Nat} (hinfo:(P.info? e).map (fun i=>(i.zero,i.size,i.bytes))=some (some z,k,bytes)) (hzs:z.cells.size=k) (hb1:bytes≤256)
  {w:World} {ops:Array Oper} {rest:List Oper} {o:Oper} {a:Act} {Q:Exit→Act→World→Prop} (hgd:o.guard=none) (s x:Operand)
  (ho:o.op= .call {callee:= .builtin .append,args:= #[s,x],argTypes:= #[t,t]}) (hty:o.type=t)
  (base:Nat) (sv:Value) (n:Nat) (l:List α) (hs:a.eval s=sv) (hown:Owns cells k e base w sv n l) (A:Option Addr) (m c:Nat) (l':List α) (hx:a.eval x= .slice A m c) (h:RowS cells k w A m c l')
  (hbig:n+m≤1099511627) (hbase:base≤w.heap.size)
  (hk:∀A' c' w',Owns cells k e base w' (.slice A' (n+m) c') (n+m) (l++l')→w.grownBy w' sv.ownBlock→((Value.slice A' (n+m) c').ownBlock=sv.ownBlock∨(Value.slice A' (n+m) c').ownBlock=some w.heap.size)→wpList P ops Q rest (a.put o.dst (.slice A' (n+m) c')) w'):
  wpList P ops Q (o::rest) a w:=by
 refine wpList_plain hgd fun K hK=> ?_
 obtain⟨s',w',hrun,h2,h3,h4⟩:=run_append F ht hinfo hzs hb1 w base sv n l hown A m c l' h hbig hbase
 obtain⟨A',c',rfl⟩:=h2.slice
 unfold Oper.wp execOp
 simp only[ho,hty,resolve,invoke,builtin,Sem.run_bind,Sem.run_pure,Result.andThen_ok,List.map_toArray,List.map_cons,List.map_nil,hs,hx,hrun]
 exact hK _ _ (hk A' c' w' h2 h3 h4)
end OwnS
end
section
open Go.RowKit Mem
namespace Mem
end Mem
namespace OwnS
variable {α:Type} {cells:α→List Value} {k:Nat}
theorem wp_append1 {P:Program} (F:Fit cells k) {t e:TypeId} (ht:P.underlying t=some (.slice e)) {z:Value} {bytes:Nat} (hinfo:(P.info? e).map (fun i=>(i.zero,i.size,i.bytes))=some (some z,k,bytes)) (hzs:z.cells.size=k) (hb1:bytes≤256)
  {w:World} {o:Oper} {a:Act} {Q:Exit→Act→World→Prop} {K:Act→World→Prop} (s x:Operand)
  (ho:o.op= .call {callee:= .builtin .append,args:= #[s,x],argTypes:= #[t,t]}) (hty:o.type=t)
  (base:Nat) (sv:Value) (n:Nat) (l:List α) (hs:a.eval s=sv) (hown:Owns cells k e base w sv n l) (A:Option Addr) (m c:Nat) (l':List α) (hx:a.eval x= .slice A m c) (h:RowS cells k w A m c l')
  (hbig:n+m≤1099511627) (hbase:base≤w.heap.size)
  (hk:∀A' c' w',Owns cells k e base w' (.slice A' (n+m) c') (n+m) (l++l')→w.grownBy w' sv.ownBlock→((Value.slice A' (n+m) c').ownBlock=sv.ownBlock∨(Value.slice A' (n+m) c').ownBlock=some w.heap.size)→K (a.put o.dst (.slice A' (n+m) c')) w'):
  Oper.wp P o a w K Q:=by
 obtain⟨s',w',hrun,h2,h3,h4⟩:=run_append F ht hinfo hzs hb1 w base sv n l hown A m c l' h hbig hbase
 obtain⟨A',c',rfl⟩:=h2.slice
 unfold Oper.wp execOp
 simp only[ho,hty,resolve,invoke,builtin,Sem.run_bind,Sem.run_pure,Result.andThen_ok,List.map_toArray,List.map_cons,List.map_nil,hs,hx,hrun]
 exact hk A' c' w' h2 h3 h4
end OwnS
end
section
open Go.RowKit Mem
namespace Box
theorem frozen_of {w:World} {g:Nat} {cs:Array Value} {t:TypeId} (h:w.heap[g]? =some (.cells cs t (0,0))) (i:Nat):w.frozen? ⟨g,i,none⟩=false:=by simp[World.frozen?,h]
theorem heap_set {w:World} {g:Nat} {cs:Array Value} {e:TypeId} (h:w.heap[g]? =some (.cells cs e (0,0))) (i:Nat) (v:Value):(w.setCell ⟨g,i,none⟩ v).heap[g]? =some (.cells (cs.setIfInBounds i v) e (0,0)):=by
 simp[World.setCell,Array.getElem?_modify,h]
def Cells (w:World) (g:Nat) (t:TypeId) (cs:Array Value):Prop:=w.heap[g]? =some (.cells cs t (0,0))
section
variable {w w':World} {g:Nat} {t:TypeId} {cs:Array Value}
theorem Cells.below (h:Cells w g t cs) (hb:Below w.heap.size w w'):Cells w' g t cs:=(hb.block _ (Array.getElem?_eq_some_iff.1 h).1).trans h
theorem Cells.lt (h:Cells w g t cs):g<w.heap.size:=(Array.getElem?_eq_some_iff.1 h).1
theorem Cells.cell (h:Cells w g t cs) (i:Nat):w.cell? ⟨g,i,none⟩=cs[i]? :=cell_of_row _ _ _ _ _ _ h
theorem Cells.frozen (h:Cells w g t cs) (i:Nat):w.frozen? ⟨g,i,none⟩=false:=frozen_of h i
theorem Cells.set_ (h:Cells w g t cs) (i:Nat) (v:Value):Cells (w.setCell ⟨g,i,none⟩ v) g t (cs.setIfInBounds i v):=heap_set h i v
theorem Cells.set_other {g':Nat} (h:Cells w g t cs) (hne:g'≠g) (i:Nat) (v:Value):Cells (w.setCell ⟨g',i,none⟩ v) g t cs:=(Below.heap_setCell _ _ _ _ (Ne.symm hne)).trans h
theorem Cells.new (w:World) (cs:Array Value) (t:TypeId):Cells (w.alloc (.cells cs t)) w.heap.size t cs:=heap_alloc_new w _
theorem Cells.alloc (h:Cells w g t cs) (o:Obj):Cells (w.alloc o) g t cs:=h.below ((Below.refl _ w).alloc (Nat.le_refl _) o)
theorem Cells.low {b:Nat} (h:Cells w g t cs) (hg:g<b) (hb:Below b w w'):Cells w' g t cs:=(hb.block _ hg).trans h
theorem Cells.drew (h:Cells w g t cs):Cells w.drew g t cs:=h
theorem Cells.ne {g':Nat} {t':TypeId} {cs':Array Value} (h:Cells w g t cs) (h':Cells w g' t' cs') (hn:t≠t'):g≠g':=by
 rintro rfl
 have:=h.symm.trans h'
 injection this with this
 injection this with _ h2
 exact hn h2
end
structure Mov (S:List Nat) (w w':World):Prop where
 os:w'.os=w.os
 tape:w'.tape=w.tape
 output:w'.output=w.output
 size:w.heap.size≤w'.heap.size
 block:∀k,k<w.heap.size→k∉S→w'.heap[k]? =w.heap[k]?
section
variable {S T:List Nat} {w w' w'':World}
theorem Mov.refl (S:List Nat) (w:World):Mov S w w:=⟨rfl,rfl,rfl,Nat.le_refl _,fun _ _ _=>rfl⟩
theorem Mov.trans (h:Mov S w w') (k:Mov T w' w'') (hs:∀x∈T,x∈S∨w.heap.size≤x):Mov S w w'':=
 ⟨k.os.trans h.os,k.tape.trans h.tape,k.output.trans h.output,Nat.le_trans h.size k.size,fun i hi hn=>by
  refine(k.block i (Nat.lt_of_lt_of_le hi h.size) fun hT=> ?_).trans (h.block i hi hn)
  rcases hs i hT with h1|h1
  ·exact hn h1
  ·omega⟩
theorem Mov.mono (h:Mov S w w') (hs:∀x∈S,x∈T∨w.heap.size≤x):Mov T w w':=(Mov.refl T w).trans h hs
theorem Mov.of_below (S:List Nat) (h:Below w.heap.size w w'):Mov S w w':=⟨h.os,h.tape,h.output,h.size,fun i hi _=>h.block i hi⟩
theorem Mov.below (h:Mov S w w') {b:Nat} (hb:b≤w.heap.size) (hS:∀x∈S,b≤x):Below b w w':=
 ⟨h.os,h.tape,h.output,h.size,fun i hi=>h.block i (Nat.lt_of_lt_of_le hi hb) fun hm=>by have:=hS i hm;omega⟩
theorem Mov.set1 (w:World) {S:List Nat} {q:Nat} (hq:q∈S) (i:Nat) (v:Value):Mov S w (w.setCell ⟨q,i,none⟩ v):=
 ⟨rfl,rfl,rfl,by simp,fun b _ hn=>Below.heap_setCell _ _ _ _ (fun e=>hn (by rw[e];exact hq))⟩
theorem Cells.mov {g:Nat} {t:TypeId} {cs:Array Value} (hc:Cells w g t cs) (h:Mov S w w') (hn:g∉S):Cells w' g t cs:=(h.block _ hc.lt hn).trans hc
end
theorem RowS.keep {α:Type} {cells:α→List Value} {k:Nat} {w w':World} {A:Option Addr} {n c:Nat} {xs:List α} (h:RowS cells k w A n c xs) (hs:w.heap.size≤w'.heap.size) (hn:∀q o,A=some ⟨q,o,none⟩→0<n→w'.heap[q]? =w.heap[q]?):RowS cells k w' A n c xs:=by
 refine⟨h.len,h.cap,h.big,fun h0=> ?_⟩
 obtain⟨q,o,e,hq,hcell⟩:=h.at_ h0
 refine⟨q,o,e,Nat.lt_of_lt_of_le hq hs,fun i x hi j u hu=> ?_⟩
 rw[World.cell?_of_block (w:=w) (hn q o e h0)]
 exact hcell i x hi j u hu
theorem RowS.drew {α:Type} {cells:α→List Value} {k:Nat} {w:World} {A:Option Addr} {n c:Nat} {xs:List α} (h:RowS cells k w A n c xs):RowS cells k w.drew A n c xs:=h.below (Below.refl _ w).drew
theorem RowS.alloc {α:Type} {cells:α→List Value} {k:Nat} {w:World} {A:Option Addr} {n c:Nat} {xs:List α} (h:RowS cells k w A n c xs) (o:Obj):RowS cells k (w.alloc o) A n c xs:=h.below ((Below.refl _ w).alloc (Nat.le_refl _) o)
end Box
end
section
open Go.RowKit Mem
namespace Box
theorem results_c1 {P:Program} {fn:Func} {p u:Tmp} {ty:TypeId} (h:fn.results= #[.cell p ty,.tmp u]) (tmps:Array Value) (w:World) (g:Nat) (t:TypeId) (cs:Array Value) (fr:Nat × Nat) (d:TypeDesc)
  (hp:tmps.getD p undef= .pointer (some ⟨g,0,none⟩)) (hg:w.heap[g]? =some (.cells cs t fr))
  (hu:P.underlying ty=some d) (hd:(match d with| .struct _| .array _ _=>true|_=>false)=true) (hi:(P.info? ty).map (·.size)=some cs.size):
  (results fn tmps).run P w= .ok (.tuple #[.agg cs,tmps.getD u undef]) w:=by
 have hp':tmps[p]?.getD undef= .pointer (some ⟨g,0,none⟩):=by simpa using hp
 simp[results,h,hp',asAddr,Result.andThen,run_loadVar_row w g t ty cs fr d hg hu hd hi]
theorem results_c0 {P:Program} {fn:Func} {p:Tmp} {ty:TypeId} (h:fn.results= #[.cell p ty]) (tmps:Array Value) (w:World) (g:Nat) (t:TypeId) (cs:Array Value) (fr:Nat × Nat) (d:TypeDesc)
  (hp:tmps.getD p undef= .pointer (some ⟨g,0,none⟩)) (hg:w.heap[g]? =some (.cells cs t fr))
  (hu:P.underlying ty=some d) (hd:(match d with| .struct _| .array _ _=>true|_=>false)=true) (hi:(P.info? ty).map (·.size)=some cs.size):
  (results fn tmps).run P w= .ok (.agg cs) w:=by
 have hp':tmps[p]?.getD undef= .pointer (some ⟨g,0,none⟩):=by simpa using hp
 simp[results,h,hp',asAddr,run_loadVar_row w g t ty cs fr d hg hu hd hi]
theorem results_c2 {P:Program} {fn:Func} {p u v:Tmp} {ty:TypeId} (h:fn.results= #[.cell p ty,.tmp u,.tmp v]) (tmps:Array Value) (w:World) (g:Nat) (t:TypeId) (cs:Array Value) (fr:Nat × Nat) (d:TypeDesc)
  (hp:tmps.getD p undef= .pointer (some ⟨g,0,none⟩)) (hg:w.heap[g]? =some (.cells cs t fr))
  (hu:P.underlying ty=some d) (hd:(match d with| .struct _| .array _ _=>true|_=>false)=true) (hi:(P.info? ty).map (·.size)=some cs.size):
  (results fn tmps).run P w= .ok (.tuple #[.agg cs,tmps.getD u undef,tmps.getD v undef]) w:=by
 have hp':tmps[p]?.getD undef= .pointer (some ⟨g,0,none⟩):=by simpa using hp
 simp[results,h,hp',asAddr,Result.andThen,run_loadVar_row w g t ty cs fr d hg hu hd hi]
theorem results_cc1 {P:Program} {fn:Func} {p u v:Tmp} {ty ty2:TypeId} (h:fn.results= #[.cell p ty,.cell u ty2,.tmp v]) (tmps:Array Value) (w:World) (g g2:Nat) (t t2:TypeId) (cs cs2:Array Value) (fr fr2:Nat × Nat) (d d2:TypeDesc)
  (hp:tmps.getD p undef= .pointer (some ⟨g,0,none⟩)) (hg:w.heap[g]? =some (.cells cs t fr))
  (hu:P.underlying ty=some d) (hd:(match d with| .struct _| .array _ _=>true|_=>false)=true) (hi:(P.info? ty).map (·.size)=some cs.size)
  (hp2:tmps.getD u undef= .pointer (some ⟨g2,0,none⟩)) (hg2:w.heap[g2]? =some (.cells cs2 t2 fr2))
  (hu2:P.underlying ty2=some d2) (hd2:(match d2 with| .struct _| .array _ _=>true|_=>false)=true) (hi2:(P.info? ty2).map (·.size)=some cs2.size):
  (results fn tmps).run P w= .ok (.tuple #[.agg cs,.agg cs2,tmps.getD v undef]) w:=by
 have hp':tmps[p]?.getD undef= .pointer (some ⟨g,0,none⟩):=by simpa using hp
 have hp2':tmps[u]?.getD undef= .pointer (some ⟨g2,0,none⟩):=by simpa using hp2
 simp[results,h,hp',hp2',asAddr,Result.andThen,run_loadVar_row w g t ty cs fr d hg hu hd hi,run_loadVar_row w g2 t2 ty2 cs2 fr2 d2 hg2 hu2 hd2 hi2]
theorem Cells.set6 {w:World} {g:Nat} {t:TypeId} {a b c d e f:Value} (h:Cells w g t #[a,b,c,d,e,f]) (x y z u v q:Value):
  Cells ((((((w.setCell ⟨g,0,none⟩ x).setCell ⟨g,1,none⟩ y).setCell ⟨g,2,none⟩ z).setCell ⟨g,3,none⟩ u).setCell ⟨g,4,none⟩ v).setCell ⟨g,5,none⟩ q) g t #[x,y,z,u,v,q]:=by
 have h1:Cells (w.setCell ⟨g,0,none⟩ x) g t #[x,b,c,d,e,f]:=by simpa using h.set_ 0 x
 have h2:Cells ((w.setCell ⟨g,0,none⟩ x).setCell ⟨g,1,none⟩ y) g t #[x,y,c,d,e,f]:=by simpa using h1.set_ 1 y
 have h3:Cells (((w.setCell ⟨g,0,none⟩ x).setCell ⟨g,1,none⟩ y).setCell ⟨g,2,none⟩ z) g t #[x,y,z,d,e,f]:=by simpa using h2.set_ 2 z
 have h4:Cells ((((w.setCell ⟨g,0,none⟩ x).setCell ⟨g,1,none⟩ y).setCell ⟨g,2,none⟩ z).setCell ⟨g,3,none⟩ u) g t #[x,y,z,u,e,f]:=by simpa using h3.set_ 3 u
 have h5:Cells (((((w.setCell ⟨g,0,none⟩ x).setCell ⟨g,1,none⟩ y).setCell ⟨g,2,none⟩ z).setCell ⟨g,3,none⟩ u).setCell ⟨g,4,none⟩ v) g t #[x,y,z,u,v,f]:=by simpa using h4.set_ 4 v
 simpa using h5.set_ 5 q
theorem Mov.set6 (w:World) (g:Nat) (x y z u v q:Value):Mov [g] w ((((((w.setCell ⟨g,0,none⟩ x).setCell ⟨g,1,none⟩ y).setCell ⟨g,2,none⟩ z).setCell ⟨g,3,none⟩ u).setCell ⟨g,4,none⟩ v).setCell ⟨g,5,none⟩ q):=
 (((((Mov.set1 w (by simp) 0 x).trans (Mov.set1 _ (by simp) 1 y) (fun _ h=> .inl h)).trans (Mov.set1 _ (by simp) 2 z) (fun _ h=> .inl h)).trans (Mov.set1 _ (by simp) 3 u) (fun _ h=> .inl h)).trans (Mov.set1 _ (by simp) 4 v) (fun _ h=> .inl h)).trans (Mov.set1 _ (by simp) 5 q) (fun _ h=> .inl h)
theorem Mov.up {w w':World} {g b:Nat} (h:Mov [g] w w') (hb:b≤w.heap.size) (hg:b≤g):Below b w w':=h.below hb (by simpa using hg)
end Box
end
end Go.Proofs.YtmkagjnkpjpjcaaGreat
