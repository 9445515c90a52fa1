/-
  SEVERAL TEXTS IN ONE FILE: PVmStable, PMem, PExtMath, PFrame, POpen, PRowS, PReg.
-/
import Derived.Test.YtmkagjnkpjpjcaaGreatJ01
import Derived.Test.YtmkagjnkpjpjcaaGreatRows
import Derived.Laws.BitsAllLaws
import Derived.Laws.BytesArg
import Derived.Below
import Derived.Laws.OwnMore
import Derived.Laws.Rows
import Derived.Laws.Slices
import Derived.Deep.Draws
import Derived.WalkKit
import Derived.Maps.AppendAt
import Derived.Deep.DeepAppendWide
import Derived.OwnWalk
import Derived.Lib.Hide
import Derived.WideShapes
import Derived.ProofKit
import Derived.OpenShut
import Derived.ShutString
import Derived.ChangeOld
import Derived.SizedLaws
import Derived.Deep.Fields
import Derived.Deep.Slices
import Derived.Deep.RegionHeld3
namespace Go.Proofs.YtmkagjnkpjpjcaaGreat
set_option maxRecDepth 100000
set_option linter.unusedSimpArgs false
set_option linter.unusedVariables false
set_option maxHeartbeats 16000000
section
open Go.Shelf Go.RowKit Go.Lib Go.Sort Stab
namespace Vm
variable {α:Type} [Inhabited α]
theorem stable_s {P:Program} {kk:Nat} (L:LP P kk) {enc:α→List Value} {cf:α→α→Int} {key:α→Int} {r:α→α→Prop} (HLT:Hid (∀x y,decide (cf x y<0)=decide (key x<key y))) {g:Nat} {cb:Array Value} (eg:∀args w,(callFunc g args).run P w= .ok (.enter g args) w) {blk off:Nat} (cap:Nat) {d0:Array α} {w0:World} (hcmp:CmpLays P g cb enc kk cf blk off d0.size w0) (R:RowK enc kk w0 blk off d0)
  (n:Nat) (d:Array α) (w:World) (hn:d.size=n) (hn2:n≤64) (hs:d0.size=n) (S:SWK enc kk w0 blk off d w) (hU:Stb key r d 0 n) (HIN:∀(a b:Nat) (d:Array α) (w:World),a≤b→b≤d.size→d.size<1000000→d0.size=d.size→SWK enc kk w0 blk off d w→Stb key r d a b→Calls P 147 #[.slice (some ⟨blk,off,none⟩) d.size cap,.int .i64 a,.int .i64 b,.func (.func g) #[] cb] w fun e w2=>e= .returned (.tuple #[])∧∃d2,Srt key r d2 a b∧Mv d d2 a b∧SWK enc kk w0 blk off d2 w2):
  Calls P 174 #[.slice (some ⟨blk,off,none⟩) n cap,.int .i64 n,.func (.func g) #[] cb] w fun e w'=>e= .returned (.tuple #[])∧∃d',Srt key r d' 0 n∧Mv d d' 0 n∧SWK enc kk w0 blk off d' w':=by
 have HINS:=fun a b (d:Array α) w h1 h2 h3 h4 h5 h6=>Lib.hid (HIN a b d w h1 h2 h3 h4 h5 h6)
 have HMRG:=fun a m b (d:Array α) w h1 h2 h3 h4 h5 h6 h7 h8 h9=>Lib.hid (symMerge_s (r:=r) L HLT eg cap hcmp R (b-a) a m b d w (Nat.le_refl _) h1 h2 h3 h4 h5 h6 h7 h8 h9)
 have HU:=Lib.hid hU
 have S0:Aside (SWK enc kk w0 blk off d w):=S
 have HN:=Lib.hid hn
 clear S hU hcmp hn HIN
 have FG:=L.fst
 have esw:=L.esw
 have ero:=L.ero
 have eme:=L.eme
 have est:=L.est
 have eins:=L.eins
 go_enter FG,Tryz.ntmps174
 go_wp2_with fail
 go_loopg [7,8] (n/20) (fun gx va vb wr=>∃(a:Nat) (dk:Array α),va= .int .i64 a∧vb= .int .i64 ((a+20:Nat):Int)∧a≤n∧(n-a)/20≤gx∧dk.size=n∧Aside (SWK enc kk w0 blk off dk wr)∧Hid (Ins key r dk a∧Mv d dk 0 n∧Stb key r dk 0 n))
 case atStart=>exact⟨0,d,rfl,rfl,by omega,Nat.le_refl _,HN.out,S0,Ins.start d,Mv.refl _ _ _,HU.out⟩
 case round=>
  clear S0
  obtain⟨a,dk,rfl,rfl,han,hgx,hsk,S1,HI⟩:=hrel
  have hb:((a+20:Nat):Int)=(a:Int)+20:=by omega
  by_cases hlt:a+20≤n
  ·have hltz:(a:Int)+20≤(n:Int):=by omega
   have hgn:(n-(a+20))/20<(n-a)/20:=by omega
   have HC1:=fun w h=>Lib.hid (HINS a (a+20) dk w (by omega) (by omega) (by omega) (by omega) h (HI.out.2.2.mono (Nat.zero_le _) hlt)).out
   rw[hsk,hb] at HC1
   go_wp2_with (go_at_call 147;refine(HC1 _ S1.out).out.mono ?_;rintro e' w2 ⟨rfl,d2,hA,hB,hS⟩;have HW:=Lib.hid (And.intro hA hB);have S2:Aside (SWK enc kk w0 blk off d2 w2):=hS;clear hA hB hS)
   go_roundg ((n-(a+20))/20)
   case measure=>omega
   case rel=>exact⟨a+20,d2,by go_num,by go_num,hlt,Nat.le_refl _,HW.out.2.size.trans hsk,S2,HI.out.1.step HW.out.1 HW.out.2,HI.out.2.1.trans (HW.out.2.mono (Nat.zero_le _) hlt),stb_moved HI.out.2.2 HW.out.2 (Nat.zero_le _) hlt HW.out.1.stb⟩
  ·have hltz:¬(a:Int)+20≤(n:Int):=by omega
   have HC1:=fun w h=>Lib.hid (HINS a n dk w (by omega) (by omega) (by omega) (by omega) h (HI.out.2.2.mono (Nat.zero_le _) (Nat.le_refl _))).out
   rw[hsk] at HC1
   go_wp2_with (go_at_call 147;refine(HC1 _ S1.out).out.mono ?_;rintro e' w2 ⟨rfl,d2,hA,hB,hS⟩;have HW:=Lib.hid (And.intro hA hB);have S2:Aside (SWK enc kk w0 blk off d2 w2):=hS;clear hA hB hS)
   have H2:=Lib.hid (show Runs key r 20 d2 n∧Mv d d2 0 n∧Stb key r d2 0 n from⟨HI.out.1.runs han (by omega) HW.out.1 HW.out.2,HI.out.2.1.trans (HW.out.2.mono (Nat.zero_le _) (Nat.le_refl _)),stb_moved HI.out.2.2 HW.out.2 (Nat.zero_le _) (Nat.le_refl _) HW.out.1.stb⟩)
   have hs2:d2.size=n:=HW.out.2.size.trans hsk
   clear S1 HI HC1 HW hsk hb hlt hltz hgx
   go_loopg [6] (100-20) (fun gx vB wr=>∃(B:Nat) (dk:Array α),vB= .int .i64 B∧(B=20∨B=40∨B=80)∧100-B≤gx∧dk.size=n∧Aside (SWK enc kk w0 blk off dk wr)∧Hid (Runs key r B dk n∧Mv d dk 0 n∧Stb key r dk 0 n))
   case atStart=>exact⟨20,d2,rfl,.inl rfl,Nat.le_refl _,hs2,S2,H2.out⟩
   case round=>
    clear S2 H2
    obtain⟨B,dk,rfl,hB,hgx,hsk,S1,HI⟩:=hrel
    by_cases hlt:B<n
    ·have hltz:(B:Int)<(n:Int):=by omega
     have hB2:B=20∨B=40:=by omega
     have HB:=Lib.hid hB2
     have hBb:20≤B∧B≤40:=by omega
     have HI2:=Lib.hid (show Two key r B dk 0 n∧Mv d dk 0 n∧Stb key r dk 0 n from⟨HI.out.1.two,HI.out.2⟩)
     clear hB hB2 HI
     have h2B:2*(B:Int)=((2*B:Nat):Int):=by omega
     have hB2:(B:Int)*2=((B*2:Nat):Int):=by omega
     generalize hC:2*B=C at h2B
     generalize hD:B*2=D at hB2
     have HCD:=Lib.hid (And.intro hC hD)
     clear hC hD
     have hCb:40≤C∧C≤80:=by have:=HCD.out;omega
     go_wp2_with fail
     go_loopg [7,8] (n/20) (fun gx2 va vb wr=>∃(a:Nat) (dj:Array α),va= .int .i64 a∧vb= .int .i64 ((a+C:Nat):Int)∧a≤n∧(n-a)/20≤gx2∧dj.size=n∧Aside (SWK enc kk w0 blk off dj wr)∧Hid (Two key r B dj a n∧Mv d dj 0 n∧Stb key r dj 0 n))
     case atStart=>exact⟨0,dk,rfl,by rw[Nat.zero_add],by omega,Nat.le_refl _,hsk,S1,HI2.out⟩
     case round=>
      clear S1 HI2
      obtain⟨a,dj,rfl,rfl,haj,hgx2,hsj,S3,HJ⟩:=hrel
      by_cases hl2:a+C≤n
      ·have hl2z:((a+C:Nat):Int)≤(n:Int):=by omega
       have hmz:(a:Int)+(B:Int)=((a+B:Nat):Int):=by omega
       have hpre:=HJ.out.1.pre HB.out (by have:=HCD.out;omega)
       rw[HCD.out.1] at hpre
       have hgn:(n-(a+C))/20<(n-a)/20:=by omega
       have HC1:=fun w h=>Lib.hid (HMRG a (a+B) (a+C) dj w (by omega) (by have:=HCD.out;omega) (by omega) (by omega) (by omega) h hpre.1 hpre.2 (HJ.out.2.2.mono (Nat.zero_le _) hl2)).out
       rw[hsj] at HC1
       clear hpre
       have hl2':=Lib.hid hl2
       generalize hM:a+B=M at*
       generalize hE:a+C=E at*
       have HE:=Lib.hid (And.intro hM hE)
       clear hM hE
       go_wp2_with (go_at_call 197;refine(HC1 _ S3.out).out.mono ?_;rintro e' w3 ⟨rfl,d3,hA,hB,hS⟩;have HW:=Lib.hid (And.intro hA hB);have S4:Aside (SWK enc kk w0 blk off d3 w3):=hS;clear hA hB hS)
       go_roundg ((n-E)/20)
       case measure=>omega
       case rel=>exact⟨E,d3,rfl,by first|rfl|go_num,hl2,Nat.le_refl _,HW.out.2.size.trans hsj,S4,by have h:=HJ.out.1.step HB.out (d':=d3) (by rw[HCD.out.1,HE.out.2];exact HW.out.1) (by rw[HCD.out.1,HE.out.2];exact HW.out.2);rw[HCD.out.1,HE.out.2] at h;exact h,HJ.out.2.1.trans (HW.out.2.mono (Nat.zero_le _) hl2),stb_moved HJ.out.2.2 HW.out.2 (Nat.zero_le _) hl2 HW.out.1.stb⟩
      ·have hl2z:¬((a+C:Nat):Int)≤(n:Int):=by omega
       have hmz:(a:Int)+(B:Int)=((a+B:Nat):Int):=by omega
       by_cases hm:a+B<n
       ·have hmn:((a+B:Nat):Int)<(n:Int):=by omega
        have hpre:=HJ.out.1.last_pre HB.out (by have:=HCD.out;omega) hm
        have HC1:=fun w h=>Lib.hid (HMRG a (a+B) n dj w (by omega) hm (by omega) (by omega) (by omega) h hpre.1 hpre.2 (HJ.out.2.2.mono (Nat.zero_le _) (Nat.le_refl _))).out
        rw[hsj] at HC1
        have HNL:Hid (n<a+2*B):=by have:=HCD.out;show _<_;omega
        clear hpre
        generalize hM:a+B=M at*
        generalize hE:a+C=E at*
        clear hM hE
        go_wp2_with (go_at_call 197;refine(HC1 _ S3.out).out.mono ?_;rintro e' w3 ⟨rfl,d3,hA,hB,hS⟩;have HW:=Lib.hid (And.intro hA hB);have S4:Aside (SWK enc kk w0 blk off d3 w3):=hS;clear hA hB hS)
        go_roundg (100-D)
        case measure=>have:=HCD.out;omega
        case rel=>exact⟨D,d3,by first|rfl|go_num,by have:=HCD.out;rcases HB.out with h|h<;>omega,Nat.le_refl _,HW.out.2.size.trans hsj,S4,by have h:=HJ.out.1.last HB.out haj HNL.out HW.out.1 HW.out.2;rw[HCD.out.2] at h;exact h,HJ.out.2.1.trans (HW.out.2.mono (Nat.zero_le _) (Nat.le_refl _)),stb_moved HJ.out.2.2 HW.out.2 (Nat.zero_le _) (Nat.le_refl _) HW.out.1.stb⟩
       ·have hmn:¬((a+B:Nat):Int)<(n:Int):=by omega
        have HNL:Hid (n<a+2*B):=by have:=HCD.out;show _<_;omega
        have HNO:=Lib.hid (HJ.out.1.last_none HB.out hm)
        generalize hM:a+B=M at*
        generalize hE:a+C=E at*
        clear hM hE
        go_wp2_with fail
        go_roundg (100-D)
        case measure=>have:=HCD.out;omega
        case rel=>exact⟨D,dj,by first|rfl|go_num,by have:=HCD.out;rcases HB.out with h|h<;>omega,Nat.le_refl _,hsj,S3,by have h:=HJ.out.1.last HB.out haj HNL.out HNO.out (Mv.refl _ _ _);rw[HCD.out.2] at h;exact h,HJ.out.2⟩
    ·have hltz:¬(B:Int)<(n:Int):=by omega
     go_wp2_with fail
     go_end0
     exact⟨rfl,dk,HI.out.1.done (by omega),HI.out.2.1,S1.out⟩
end Vm
end
section
open Go.RowKit
namespace Mem
def u (b:BitVec 8):Int:=(b.toNat:Int)
theorem u_nonneg (a:BitVec 8):0≤u a:=Int.natCast_nonneg _
theorem u_lt (a:BitVec 8):u a<256:=by have:=a.isLt;unfold u;omega
def cb (x:BitVec 8):Value:= .int .u8 (u x)
def ci (n:Int):Value:= .int .i64 n
theorem cb_one (x:BitVec 8):(cb x).oneCell'=true:=rfl
theorem ci_one (x:Int):(ci x).oneCell'=true:=rfl
theorem add_none (b o k:Nat):(⟨b,o,none⟩:Addr).add k=⟨b,o+k,none⟩:=by
 unfold Addr.add;split<;>simp_all
structure Row {α:Type} (f:α→Value) (w:World) (A:Option Addr) (n c:Nat) (l:List α):Prop where
 len:l.length=n
 cap:n≤c
 big:n≤140737488351232
 at_:0<n→∃b o,A=some ⟨b,o,none⟩∧b<w.heap.size∧∀i x,l[i]? =some x→w.cell? ⟨b,o+i,none⟩=some (f x)
section
variable {α:Type} {f:α→Value} {w w':World} {A:Option Addr} {n c:Nat} {l:List α}
theorem Row.nil (f:α→Value) (w:World):Row f w none 0 0 []:=⟨rfl,by omega,by omega,fun h=>absurd h (by omega)⟩
theorem Row.keep (h:Row f w A n c l) (hs:w.heap.size≤w'.heap.size) (hb:∀k,k<w.heap.size→w'.heap[k]? =w.heap[k]?):Row f w' A n c l:=by
 refine⟨h.len,h.cap,h.big,fun h0=> ?_⟩
 obtain⟨b,o,e,hx,hc⟩:=h.at_ h0
 refine⟨b,o,e,by omega,fun i x hi=> ?_⟩
 rw[World.cell?_of_block (w:=w) (hb b hx)]
 exact hc i x hi
theorem Row.below (h:Row f w A n c l) (hb:Below w.heap.size w w'):Row f w' A n c l:=h.keep hb.size hb.block
theorem Row.drew (h:Row f w A n c l):Row f w.drew A n c l:=h.keep (Nat.le_refl _) fun _ _=>rfl
theorem Row.alloc (h:Row f w A n c l) (o:Obj):Row f (w.alloc o) A n c l:=h.below ((Below.refl _ w).alloc (Nat.le_refl _) o)
def tailA (A:Option Addr) (c k:Nat):Option Addr:=if c=k then A else A.map (·.add k)
theorem Row.tail (h:Row f w A n c l) {k:Nat} (hk:k≤n):Row f w (tailA A c k) (n-k) (c-k) (l.drop k):=by
 have hl:=h.len
 have hc:=h.cap
 have hb:=h.big
 refine⟨by simp[hl],by omega,by omega,fun h0=> ?_⟩
 obtain⟨b,o,e,hx,hcell⟩:=h.at_ (by omega)
 refine⟨b,o+k,?_,hx,fun i x hi=> ?_⟩
 ·unfold tailA
  rw[if_neg (by omega),e]
  simp[add_none]
 ·rw[List.getElem?_drop] at hi
  have:=hcell _ _ hi
  rwa [Nat.add_assoc]
theorem Row.head (h:Row f w A n c l) {k:Nat} (hk:k≤n):Row f w A k c (l.take k):=by
 have hl:=h.len
 have hc:=h.cap
 have hb:=h.big
 refine⟨by simp[hl];omega,by omega,by omega,fun h0=> ?_⟩
 obtain⟨b,o,e,hx,hcell⟩:=h.at_ (by omega)
 refine⟨b,o,e,hx,fun i x hi=> ?_⟩
 rw[List.getElem?_take] at hi
 split at hi
 ·exact hcell _ _ hi
 ·cases hi
theorem Row.mid (h:Row f w A n c l) {k j:Nat} (hk:k≤j) (hj:j≤n):Row f w (tailA A c k) (j-k) (c-k) ((l.drop k).take (j-k)):=by
 exact(h.tail (by omega)).head (by omega)
theorem Row.cell (h:Row f w A n c l) {i:Nat} {x:α} (hi:l[i]? =some x):∃b o,A=some ⟨b,o,none⟩∧w.cell? ⟨b,o+i,none⟩=some (f x):=by
 have:i<l.length:=(List.getElem?_eq_some_iff.1 hi).1
 obtain⟨b,o,e,-,hc⟩:=h.at_ (by have:=h.len;omega)
 exact⟨b,o,e,hc i x hi⟩
theorem Row.get (h:Row f w A n c l) {i:Nat} (hi:i<n):∃x,l[i]? =some x:=⟨_,List.getElem?_eq_getElem (by have:=h.len;omega)⟩
def Owns (f:α→Value) (e:TypeId) (base:Nat) (w:World) (s:Value) (n:Nat) (l:List α):Prop:=w.ownsRow base e 1 s n (l.map f)
theorem Owns.nil (f:α→Value) (e:TypeId) (base:Nat) (w:World):Owns f e base w (.slice none 0 0) 0 []:=World.ownsRow_nil _ _ _ _
theorem Owns.len {e:TypeId} {base:Nat} {s:Value} (h:Owns f e base w s n l):l.length=n:=by simpa using h.1
theorem Owns.row {e:TypeId} {base:Nat} {s:Value} (h:Owns f e base w s n l) (hn:n≤140737488351232):∃A c,s= .slice A n c∧Row f w A n c l:=by
 have hl:=h.len
 rcases h.2 with⟨rfl,rfl⟩|⟨g,cap,cur,rfl,_,hg,hnc,hcm,hs,ht⟩
 ·have:l= []:=List.eq_nil_of_length_eq_zero hl
  subst this
  exact⟨none,0,rfl,Row.nil f w⟩
 ·refine⟨some ⟨g,0,none⟩,cap,rfl,hl,hnc,hn,fun _=>⟨g,0,rfl,(Array.getElem?_eq_some_iff.1 hg).1,fun i x hx=> ?_⟩⟩
  have:=World.ownsRow.cells (g:=g) (h:w.ownsRow base e 1 _ n (l.map f)) rfl i (f x) (by rw[List.getElem?_map,hx];rfl)
  simpa [add_none] using this
theorem Owns.slice {e:TypeId} {base:Nat} {s:Value} (h:Owns f e base w s n l):∃A c,s= .slice A n c:=by
 rcases h.2 with⟨rfl,rfl⟩|⟨g,cap,cur,rfl,_⟩
 ·exact⟨none,0,rfl⟩
 ·exact⟨_,_,rfl⟩
theorem Owns.below {e:TypeId} {base:Nat} {s:Value} (h:Owns f e base w s n l) (hb:Below w.heap.size w w'):Owns f e base w' s n l:=by
 refine⟨h.1,?_⟩
 rcases h.2 with hn|⟨g,cap,cur,e',hbg,hg,r⟩
 ·exact .inl hn
 ·exact .inr ⟨g,cap,cur,e',hbg,(hb.block g (Array.getElem?_eq_some_iff.1 hg).1).trans hg,r⟩
theorem Owns.mono {e:TypeId} {base base':Nat} {s:Value} (h:Owns f e base w s n l) (hb:base'≤base):Owns f e base' w s n l:=by
 refine⟨h.1,?_⟩
 rcases h.2 with hn|⟨g,cap,cur,e',hbg,r⟩
 ·exact .inl hn
 ·exact .inr ⟨g,cap,cur,e',Nat.le_trans hb hbg,r⟩
theorem Owns.alloc {e:TypeId} {base:Nat} {s:Value} (h:Owns f e base w s n l) (o:Obj):Owns f e base (w.alloc o) s n l:=h.below ((Below.refl _ w).alloc (Nat.le_refl _) o)
theorem Owns.drew {e:TypeId} {base:Nat} {s:Value} (h:Owns f e base w s n l):Owns f e base w.drew s n l:=h.below (Below.refl _ w).drew
theorem Owns.made (f:α→Value) (e:TypeId) (w:World) (l:List α) (hn:l.length≤maxLen) {base:Nat} (hb:base≤w.heap.size):Owns f e base (w.alloc (.cells (l.map f).toArray e)) (.slice (some ⟨w.heap.size,0,none⟩) l.length l.length) l.length l:=
 ⟨by simp,.inr ⟨w.heap.size,l.length,(l.map f).toArray,rfl,hb,heap_alloc_new w _,Nat.le_refl _,hn,by simp,by rw[Nat.mul_one];exact List.take_of_length_le (by simp)⟩⟩
end
theorem run_append {α:Type} {P:Program} {f:α→Value} (hf:∀x,(f x).oneCell'=true) {t e:TypeId} (ht:P.underlying t=some (.slice e)) {z:Value} {bytes:Nat} (hinfo:(P.info? e).map (fun i=>(i.zero,i.size,i.bytes))=some (some z,1,bytes)) (hzs:z.cells.size=1)
  (w:World) (base:Nat) (s:Value) (n:Nat) (l:List α) (hown:Owns f e base w s n l) (A:Option Addr) (m c:Nat) (l':List α) (hx:Row f w A m c l')
  (hbig:n+m≤281474976710656) (hby:((n+m)+(n+m)/4+192)*bytes≤281474976710656) (hbase:base≤w.heap.size):
  ∃s' w',(Builtin.append_ #[t,t] t #[s,.slice A m c]).run P w= .ok s' w'∧Owns f e base w' s' (n+m) (l++l')∧Below base w w'∧(w'=w∧s'=s∧m=0∨0<n+m∨s'≠ .slice none 0 0):=by
 obtain⟨i,hi,hz0,hz1,hz2⟩:=info_parts hinfo
 have hone:∀q∈l'.map f,q.oneCell'=true:=by
  intro q hq
  obtain⟨x,_,rfl⟩:=List.mem_map.1 hq
  exact hf x
 rcases A with _|ad
 ·have hm:m=0:=by
    rcases Nat.eq_zero_or_pos m with h0|h0
    ·exact h0
    ·obtain⟨b,o,e,_⟩:=hx.at_ h0
     cases e
  have hl:l'= []:=List.eq_nil_of_length_eq_zero (by rw[hx.len,hm])
  subst hm hl
  refine⟨s,w,?_,by simpa using hown,Below.refl _ _,.inl ⟨rfl,rfl,rfl⟩⟩
  rcases hown.2 with⟨rfl,rfl⟩|⟨b,cap,cur,rfl,_,_,hnc,_⟩
  ·simp[Builtin.append_,run_underlying ht,sizeOf,typeInfo,hi,Builtin.lenOf,Builtin.firstCells]
  ·simp[Builtin.append_,run_underlying ht,sizeOf,typeInfo,hi,Builtin.lenOf,Builtin.firstCells,hnc,storeCells]
 ·have hcells:∀j q,(l'.map f)[j]? =some q→w.cell? (ad.add j)=some q:=by
    intro j q hq
    rw[List.getElem?_map] at hq
    obtain⟨x,hxj,rfl⟩:=Option.map_eq_some_iff.1 hq
    have hlt:j<l'.length:=(List.getElem?_eq_some_iff.1 hxj).1
    obtain⟨b,o,e,_,hc⟩:=hx.at_ (by have:=hx.len;omega)
    injection e with e
    subst e
    rw[add_none]
    exact hc j x hxj
  obtain⟨s',w',hrun,h2,h3,h4⟩:=run_append_own_wide (P:=P) w base t t e i _ 1 bytes ht hi hz0 hz1 hz2 hzs (by omega) s n _ hown ad m c (l'.map f) (by simp[hx.len]) hcells hone (by unfold maxLen;omega) hby hbase
  refine⟨s',w',hrun,by unfold Owns;rw[List.map_append];exact h2,(Below.refl base w).grown h3 hbase (fun k hk=>(World.ownsRow.lt hown k hk).1),?_⟩
  rcases Nat.eq_zero_or_pos (n+m) with h0|h0
  ·by_cases hn:s'= .slice none 0 0
   ·obtain⟨e1,e2⟩:=h4.1 hn
    subst e1
    refine .inl ⟨?_,hn,e2⟩
    subst hn e2
    have hnil:(Builtin.append_ #[t,t] t #[.slice none 0 0,.slice (some ad) 0 c]).run P w= .ok (.slice none 0 0) w:=by
     simp[Builtin.append_,run_underlying ht,sizeOf,typeInfo,hi,Builtin.lenOf,Builtin.firstCells,loadCells,loadCellsFrom]
    rw[hnil] at hrun
    injection hrun with h1 h2
    exact h2.symm
   ·exact .inr (.inr hn)
  ·exact .inr (.inl h0)
theorem wpList_append_row {α:Type} {P:Program} {f:α→Value} (hf:∀x,(f x).oneCell'=true) {t e:TypeId} (ht:P.underlying t=some (.slice e)) {z:Value} {bytes:Nat} (hinfo:(P.info? e).map (fun i=>(i.zero,i.size,i.bytes))=some (some z,1,bytes)) (hzs:z.cells.size=1)
  {w:World} {ops:Array Oper} {rest:List Oper} {o:Oper} {a:Act} {Q:Exit→Act→World→Prop} (hgd:o.guard=none) (s x:Operand)
  (ho:o.op= .call {callee:= .builtin .append,args:= #[s,x],argTypes:= #[t,t]}) (hty:o.type=t)
  (base:Nat) (sv:Value) (n:Nat) (l:List α) (hs:a.eval s=sv) (hown:Owns f e base w sv n l) (A:Option Addr) (m c:Nat) (l':List α) (hx:a.eval x= .slice A m c) (h:Row f w A m c l')
  (hbig:n+m≤281474976710656) (hby:((n+m)+(n+m)/4+192)*bytes≤281474976710656) (hbase:base≤w.heap.size)
  (hk:∀A' c' w',Owns f e base w' (.slice A' (n+m) c') (n+m) (l++l')→Below base w w'→wpList P ops Q rest (a.put o.dst (.slice A' (n+m) c')) w'):
  wpList P ops Q (o::rest) a w:=by
 refine wpList_plain hgd fun K hK=> ?_
 obtain⟨s',w',hrun,h2,h3,-⟩:=run_append hf ht hinfo hzs w base sv n l hown A m c l' h hbig hby hbase
 obtain⟨A',c',rfl⟩:=h2.slice
 unfold Oper.wp execOp
 simp only[ho,hty,resolve,invoke,builtin,Sem.run_bind,Sem.run_pure,Result.andThen_ok,List.map_toArray,List.map_cons,List.map_nil,hs,hx,hrun]
 exact hK _ _ (hk A' c' w' h2 h3)
theorem info_byte:(Tryz.prog.info? 5).map (fun i=>(i.zero,i.size,i.bytes))=some (some (.int .u8 0),1,1):=by kernel_rfl
theorem run_tail (A:Option Addr) (n c k:Nat) (hk:k≤n) (w:World):(Instr.slice 37 (.slice A n c) (some (.int .i64 (k:Int))) none none).run Tryz.prog w= .ok (.slice (tailA A c k) (n-k) (c-k)) w:=by
 obtain⟨i,hi,hz0,hz1,hz2⟩:=info_parts info_byte
 have h1:(k:Int)≤(n:Int):=by omega
 have h0:(0:Int)≤(k:Int):=by omega
 simp[Instr.slice,Instr.sliceBounds,run_sliceBound,h0,h1,run_underlying Tryz.underlying37,sizeOf,typeInfo,hi,hz1,tailA]
theorem run_head (A:Option Addr) (n c k:Nat) (h:k≤c) (w:World):(Instr.slice 37 (.slice A n c) none (some (.int .i64 (k:Int))) none).run Tryz.prog w= .ok (.slice A k c) w:=by
 obtain⟨i,hi,hz0,hz1,hz2⟩:=info_parts info_byte
 have e:(if c=0 then A else A.map (·.add 0))=A:=by
  split
  ·rfl
  ·cases A with
   |none=>rfl
   |some x=>simp[Addr.add]
 have h1:(k:Int)≤(c:Int):=by omega
 have h0:(0:Int)≤(k:Int):=by omega
 simp[Instr.slice,Instr.sliceBounds,run_sliceBound,h0,h1,run_underlying Tryz.underlying37,sizeOf,typeInfo,hi,e]
theorem run_mid (A:Option Addr) (n c k j:Nat) (hk:k≤j) (hj:j≤c) (w:World):(Instr.slice 37 (.slice A n c) (some (.int .i64 (k:Int))) (some (.int .i64 (j:Int))) none).run Tryz.prog w= .ok (.slice (tailA A c k) (j-k) (c-k)) w:=by
 obtain⟨i,hi,hz0,hz1,hz2⟩:=info_parts info_byte
 have h1:(k:Int)≤(j:Int):=by omega
 have h0:(0:Int)≤(k:Int):=by omega
 have h2:(j:Int)≤(c:Int):=by omega
 have h3:(0:Int)≤(j:Int):=by omega
 simp[Instr.slice,Instr.sliceBounds,run_sliceBound,h0,h1,h2,h3,run_underlying Tryz.underlying37,sizeOf,typeInfo,hi,hz1,tailA]
def str (l:List (BitVec 8)):ByteArray:=strOfNums (l.map u)
theorem run_str {w:World} {A:Option Addr} {n c:Nat} {l:List (BitVec 8)} (h:Row cb w A n c l):(convert 37 9 (.slice A n c)).run Tryz.prog w= .ok (.string (str l)) w:=by
 rcases Nat.eq_zero_or_pos n with h0|h0
 ·have hl:l= []:=List.eq_nil_of_length_eq_zero (by rw[h.len,h0])
  subst hl h0
  rw[run_convert_bytes_string w _ _ _ _ _ c Tryz.underlying37 Tryz.underlying5 Tryz.underlying9]
  cases A with
  |none=>simp[Conv.bytesToString,str,strOfNums];rfl
  |some a=>
   rw[run_bytesToString w a 0 c [] (by simp[loadCells,loadCellsFrom])]
   rfl
 ·obtain⟨b,o,rfl,-,hc⟩:=h.at_ h0
  exact run_convert_bytes_arg w _ _ Tryz.underlying37 Tryz.underlying5 b o n c (l.map u) (by simp[h.len]) (fun i hi=>by
   have hi':i<l.length:=by rw[h.len];exact hi
   rw[hc i _ (List.getElem?_eq_getElem hi')]
   simp[cb,List.getD,List.getElem?_map,List.getElem?_eq_getElem hi']) _ Tryz.underlying9
theorem ret_int {k:IntKind} {a b:Int} (h:a=b):Ending.returned (.int k a)= .returned (.int k b):=by rw[h]
theorem ret_bool {a b:Bool} (h:a=b):Ending.returned (.bool a)= .returned (.bool b):=by rw[h]
end Mem
end
section
open Go.RowKit Mem
namespace Ext
structure Ex where
 lba:Int
 n:Int
 ver:Int
 zone:Int
 off:Int
def Ex.en (x:Ex):Int:=x.lba+x.n
def zE:Ex:=⟨0,0,0,0,0⟩
def errOf (b:Bool):Int:=bif b then 0 else 1
def mayE (x:Ex):Bool:=decide (0≤x.lba)&&(decide (1≤x.n)&&(decide (x.lba+x.n≤1099511627776)&&(decide (0≤x.ver)&&
 (bif x.zone== -1 then x.off==0 else decide (0≤x.zone)&&(decide (x.zone≤1099511627776)&&(decide (0≤x.off)&&decide (x.off+16*x.n≤1125899906842624)))))))
def MayX (x:Ex):Prop:=0≤x.lba∧1≤x.n∧x.lba+x.n≤1099511627776∧0≤x.ver∧(x.zone= -1∧x.off=0∨0≤x.zone∧x.zone≤1099511627776∧0≤x.off∧x.off+16*x.n≤1125899906842624)
theorem mayE_iff {x:Ex}:mayE x=true↔MayX x:=by
 unfold mayE MayX
 by_cases h:x.zone= -1
 ·have:(x.zone== -1)=true:=by simpa using h
  simp only[this,cond_true,Bool.and_eq_true,decide_eq_true_eq,beq_iff_eq]
  omega
 ·have:(x.zone== -1)=false:=by simpa using h
  simp only[this,cond_false,Bool.and_eq_true,decide_eq_true_eq]
  omega
def Ok:Int→List Ex→Prop
 |_,[]=>True
 |f,x::r=>MayX x∧f≤x.lba∧Ok x.en r
def okF:Int→List Ex→Bool
 |_,[]=>true
 |f,x::r=>(mayE x&&decide (f≤x.lba))&&okF x.en r
def okE (l:List Ex):Bool:=okF 0 l
theorem okF_iff {f:Int} {l:List Ex}:okF f l=true↔Ok f l:=by
 induction l generalizing f with
 |nil=>simp[okF,Ok]
 |cons x r ih=>simp only[okF,Ok,Bool.and_eq_true,decide_eq_true_eq,ih,mayE_iff,and_assoc]
theorem Ok.low {f g:Int} {l:List Ex} (h:Ok f l) (hg:g≤f):Ok g l:=by
 cases l with
 |nil=>trivial
 |cons x r=>exact⟨h.1,Int.le_trans hg h.2.1,h.2.2⟩
theorem Ok.may {f:Int} {l:List Ex} (h:Ok f l):∀x∈l,MayX x:=by
 induction l generalizing f with
 |nil=>intro x hx;cases hx
 |cons y r ih=>
  intro x hx
  rcases List.mem_cons.1 hx with rfl|hx
  ·exact h.1
  ·exact ih h.2.2 x hx
theorem en_lt {x:Ex} (h:MayX x):x.lba<x.en:=by have:=h.2.1;unfold Ex.en;omega
theorem en_le {x:Ex} (h:MayX x):x.en≤1099511627776:=h.2.2.1
def Ends (t:Int) (l:List Ex):Prop:=∀x∈l,x.en≤t
theorem Ok.ends {f:Int} {l:List Ex} (h:Ok f l):Ends 1099511627776 l:=fun x hx=>en_le (h.may x hx)
theorem Ok.from {f:Int} {l:List Ex} (h:Ok f l):∀x∈l,f≤x.lba:=by
 induction l generalizing f with
 |nil=>intro x hx;cases hx
 |cons y r ih=>
  intro x hx
  rcases List.mem_cons.1 hx with rfl|hx
  ·exact h.2.1
  ·have h1:=ih h.2.2 x hx
   have h2:=en_lt h.1
   have h3:=h.2.1
   omega
theorem ok_append {f g:Int} {a b:List Ex} (ha:Ok f a) (hb:Ok g b) (he:Ends g a) (hfg:f≤g):Ok f (a++b):=by
 induction a generalizing f with
 |nil=>exact hb.low hfg
 |cons x r ih=>exact⟨ha.1,ha.2.1,ih ha.2.2 (fun y hy=>he y (List.mem_cons_of_mem _ hy)) (he x List.mem_cons_self)⟩
theorem ok_split {f:Int} {a b:List Ex} (h:Ok f (a++b)):Ok f a∧∃g,Ok g b∧Ends g a∧f≤g:=by
 induction a generalizing f with
 |nil=>exact⟨trivial,f,h,(fun x hx=>by cases hx),Int.le_refl _⟩
 |cons x r ih=>
  obtain⟨h1,g,h2,h3,h4⟩:=ih h.2.2
  refine⟨⟨h.1,h.2.1,h1⟩,g,h2,fun y hy=> ?_,?_⟩
  ·rcases List.mem_cons.1 hy with rfl|hy
   ·exact h4
   ·exact h3 y hy
  ·have:=en_lt h.1;have:=h.2.1;omega
def blk (x:Ex) (k:Int):Int × Int × Int:=(x.ver,x.zone,if x.zone= -1 then 0 else x.off+16*(k-x.lba))
def has (x:Ex) (k:Int):Prop:=x.lba≤k∧k<x.en
instance (x:Ex) (k:Int):Decidable (has x k):=inferInstanceAs (Decidable (_∧_))
def tell:List Ex→Int→Option (Int × Int × Int)
 | [],_=>none
 |x::r,k=>if has x k then some (blk x k) else tell r k
theorem tell_append (a b:List Ex) (k:Int):tell (a++b) k=(tell a k).or (tell b k):=by
 induction a with
 |nil=>rfl
 |cons x r ih=>
  simp only[List.cons_append,tell,ih]
  split<;>rfl
theorem tell_low {f k:Int} {l:List Ex} (h:Ok f l) (hk:k<f):tell l k=none:=by
 induction l generalizing f with
 |nil=>rfl
 |cons x r ih=>
  have h1:=h.2.1
  have h2:=en_lt h.1
  rw[tell,if_neg (by unfold has;omega)]
  exact ih h.2.2 (by omega)
theorem tell_past {t k:Int} {l:List Ex} (h:Ends t l) (hk:t≤k):tell l k=none:=by
 induction l with
 |nil=>rfl
 |cons x r ih=>
  have h1:=h x List.mem_cons_self
  rw[tell,if_neg (by unfold has;omega)]
  exact ih fun y hy=>h y (List.mem_cons_of_mem _ hy)
theorem tell_high {f k:Int} {l:List Ex} (h:Ok f l) (hk:1099511627776≤k):tell l k=none:=tell_past h.ends hk
def cutE (x:Ex) (a b:Int):Ex:=⟨a,b-a,x.ver,x.zone,bif x.zone== -1 then x.off else x.off+(a-x.lba)*16⟩
theorem cutE_off (x:Ex) (a b:Int):(cutE x a b).off=if x.zone= -1 then x.off else x.off+(a-x.lba)*16:=by
 unfold cutE
 by_cases h:x.zone= -1
 ·have:(x.zone== -1)=true:=by simpa using h
  simp[h]
 ·have:(x.zone== -1)=false:=by simpa using h
  simp[this,h]
theorem cutE_none {x:Ex} {a b:Int} (h:(x.zone != -1)=false):cutE x a b=⟨a,b-a,x.ver,x.zone,x.off⟩:=by
 have:(x.zone== -1)=true:=by simpa [bne] using h
 unfold cutE;rw[this];rfl
theorem cutE_some {x:Ex} {a b:Int} (h:(x.zone != -1)=true):cutE x a b=⟨a,b-a,x.ver,x.zone,x.off+(a-x.lba)*16⟩:=by
 have:(x.zone== -1)=false:=by simpa [bne] using h
 unfold cutE;rw[this];rfl
theorem ex_ext {x y:Ex} (h1:x.lba=y.lba) (h2:x.n=y.n) (h3:x.ver=y.ver) (h4:x.zone=y.zone) (h5:x.off=y.off):x=y:=by
 cases x;cases y;simp_all
theorem cutE_self (x:Ex):cutE x x.lba x.en=x:=by
 refine ex_ext rfl ?_ rfl rfl ?_
 ·show x.en-x.lba=x.n;unfold Ex.en;omega
 ·rw[cutE_off];split<;>omega
theorem cutE_en (x:Ex) (a b:Int):(cutE x a b).en=b:=by show a+(b-a)=b;omega
def clip (a b:Int) (x:Ex):Ex:=cutE x (max x.lba a) (min x.en b)
def touch (a b:Int) (x:Ex):Bool:=decide (a<x.en)&&decide (x.lba<b)
def clips (a b:Int) (l:List Ex):List Ex:=bif decide (a<b) then(l.filter (touch a b)).map (clip a b) else []
theorem touch_iff {a b:Int} {x:Ex}:touch a b x=true↔a<x.en∧x.lba<b:=by unfold touch;simp only[Bool.and_eq_true,decide_eq_true_eq]
theorem clips_nil (a b:Int):clips a b []= []:=by unfold clips;cases decide (a<b)<;>rfl
theorem clips_none {a b:Int} (h:b≤a) (l:List Ex):clips a b l= []:=by
 have:decide (a<b)=false:=decide_eq_false (by omega)
 unfold clips;rw[this];rfl
theorem clips_cons {a b:Int} (h:a<b) (x:Ex) (l:List Ex):clips a b (x::l)=if a<x.en∧x.lba<b then clip a b x::clips a b l else clips a b l:=by
 have hd:decide (a<b)=true:=decide_eq_true h
 unfold clips
 simp only[hd,cond_true]
 by_cases ht:a<x.en∧x.lba<b
 ·rw[if_pos ht,List.filter_cons_of_pos (touch_iff.2 ht),List.map_cons]
 ·rw[if_neg ht,List.filter_cons_of_neg (fun h=>ht (touch_iff.1 h))]
theorem clip_lba (a b:Int) (x:Ex):(clip a b x).lba=max x.lba a:=rfl
theorem clip_en (a b:Int) (x:Ex):(clip a b x).en=min x.en b:=cutE_en _ _ _
theorem clip_may {a b:Int} {x:Ex} (h:MayX x) (h1:a<x.en) (h2:x.lba<b) (hab:a<b):MayX (clip a b x):=by
 obtain⟨m1,m2,m3,m4,m5⟩:=h
 have he:x.en=x.lba+x.n:=rfl
 have ho:=cutE_off x (max x.lba a) (min x.en b)
 have hn:(clip a b x).n=min x.en b-max x.lba a:=rfl
 refine⟨?_,?_,?_,m4,?_⟩
 ·rw[clip_lba];omega
 ·rw[hn];omega
 ·rw[hn,clip_lba];omega
 ·show x.zone= -1∧(clip a b x).off=0∨0≤x.zone∧x.zone≤1099511627776∧0≤(clip a b x).off∧(clip a b x).off+16*(clip a b x).n≤1125899906842624
  rw[hn,show(clip a b x).off=_ from ho]
  rcases m5 with⟨q1,q2⟩|⟨q1,q2,q3,q4⟩
  ·rw[if_pos q1];exact .inl ⟨q1,q2⟩
  ·rw[if_neg (by omega)];exact .inr ⟨q1,q2,by omega,by omega⟩
theorem clip_blk (a b k:Int) (x:Ex):blk (clip a b x) k=blk x k:=by
 have ho:(clip a b x).off=_:=cutE_off x (max x.lba a) (min x.en b)
 unfold blk
 rw[ho,clip_lba]
 show(x.ver,x.zone,_)=_
 by_cases h:x.zone= -1
 ·have h':(clip a b x).zone= -1:=h
  simp[h',h]
 ·have h':¬(clip a b x).zone= -1:=h
  simp only[if_neg h,if_neg h',Prod.mk.injEq,true_and]
  omega
theorem may_zone {x:Ex} (h:MayX x):x.zone= -1→x.off=0:=by
 rcases h.2.2.2.2 with h|h
 ·exact fun _=>h.2
 ·intro h';omega
theorem tell_clips {f a b:Int} {l:List Ex} (h:Ok f l) (k:Int):tell (clips a b l) k=if a≤k∧k<b then tell l k else none:=by
 by_cases hab:a<b
 ·induction l generalizing f with
  |nil=>rw[clips_nil];simp[tell]
  |cons x r ih=>
   have ihr:=ih h.2.2
   have hm:=h.1
   rw[clips_cons hab]
   by_cases ht:a<x.en∧x.lba<b
   ·rw[if_pos ht,tell,tell,clip_blk _ _ _ _,ihr]
    by_cases hk:a≤k∧k<b
    ·rw[if_pos hk,if_pos hk]
     by_cases hx:has x k
     ·have:has (clip a b x) k:=by unfold has at*;rw[clip_lba,clip_en];omega
      rw[if_pos hx,if_pos this]
     ·have:¬has (clip a b x) k:=by unfold has at*;rw[clip_lba,clip_en];omega
      rw[if_neg hx,if_neg this]
    ·have:¬has (clip a b x) k:=by unfold has at*;rw[clip_lba,clip_en];omega
     rw[if_neg hk,if_neg hk,if_neg this]
   ·rw[if_neg ht,ihr]
    by_cases hk:a≤k∧k<b
    ·have:¬has x k:=by unfold has at*;omega
     rw[if_pos hk,if_pos hk,tell,if_neg this]
    ·rw[if_neg hk,if_neg hk]
 ·rw[clips_none (by omega),if_neg (by omega)];rfl
theorem ok_clips {f g a b:Int} {l:List Ex} (h:Ok f l) (hg:g≤max f a):Ok g (clips a b l):=by
 by_cases hab:a<b
 ·induction l generalizing f g with
  |nil=>rw[clips_nil];trivial
  |cons x r ih=>
   have hx:=en_lt h.1
   have hf:=h.2.1
   rw[clips_cons hab]
   by_cases ht:a<x.en∧x.lba<b
   ·rw[if_pos ht]
    refine⟨clip_may h.1 ht.1 ht.2 hab,by rw[clip_lba];omega,?_⟩
    rw[clip_en]
    exact ih h.2.2 (by omega)
   ·rw[if_neg ht]
    exact ih h.2.2 (by omega)
 ·rw[clips_none (by omega)];trivial
theorem ends_clips (a b:Int) (l:List Ex):Ends b (clips a b l):=by
 intro x hx
 unfold clips at hx
 cases hd:decide (a<b)
 ·rw[hd] at hx;cases hx
 ·rw[hd,cond_true] at hx
  obtain⟨y,-,rfl⟩:=List.mem_map.1 hx
  rw[clip_en];omega
theorem clips_len (a b:Int) (l:List Ex):(clips a b l).length≤l.length:=by
 unfold clips
 cases decide (a<b)
 ·exact Nat.zero_le _
 ·rw[cond_true,List.length_map];exact List.length_filter_le _ _
theorem clips_past {a b:Int} {l:List Ex} (h:Ends a l):clips a b l= []:=by
 by_cases hab:a<b
 ·induction l with
  |nil=>exact clips_nil _ _
  |cons x r ih=>
   have he:=h x List.mem_cons_self
   rw[clips_cons hab,if_neg (by omega),ih fun y hy=>h y (List.mem_cons_of_mem _ hy)]
 ·exact clips_none (by omega) _
theorem clips_ahead {f a b:Int} {l:List Ex} (h:Ok f l) (hb:b≤f):clips a b l= []:=by
 by_cases hab:a<b
 ·induction l generalizing f with
  |nil=>exact clips_nil _ _
  |cons x r ih=>
   have hx:=en_lt h.1
   have hf:=h.2.1
   rw[clips_cons hab,if_neg (by omega),ih h.2.2 (by omega)]
 ·exact clips_none (by omega) _
def overF (l:List Ex):Int→List Ex→List Ex
 |f,[]=>clips f 1099511627776 l
 |f,x::u=>clips f x.lba l++x::overF l x.en u
def overE (l u:List Ex):List Ex:=overF l 0 u
theorem tell_over {f g:Int} {l u:List Ex} (hl:Ok g l) (hu:Ok f u) (k:Int):tell (overF l f u) k=if f≤k then(tell u k).or (tell l k) else none:=by
 induction u generalizing f with
 |nil=>
  rw[overF,tell_clips hl]
  by_cases h1:f≤k
  ·by_cases h2:k<1099511627776
   ·rw[if_pos ⟨h1,h2⟩,if_pos h1];rfl
   ·rw[if_neg (by omega),if_pos h1,tell_high hl (by omega)];rfl
  ·rw[if_neg (by omega),if_neg h1]
 |cons x u ih=>
  have hx:=en_lt hu.1
  have hf:=hu.2.1
  rw[overF,tell_append,tell_clips hl,tell,ih hu.2.2,tell]
  by_cases h1:f≤k
  ·rw[if_pos h1]
   by_cases h2:k<x.lba
   ·rw[if_pos ⟨h1,h2⟩,if_neg (by unfold has;omega),if_neg (by omega),if_neg (by unfold has;omega),tell_low hu.2.2 (by omega)]
    cases tell l k<;>rfl
   ·rw[if_neg (by omega)]
    by_cases h3:k<x.en
    ·rw[if_pos (by unfold has;omega),if_pos (by unfold has;omega)];rfl
    ·rw[if_neg (by unfold has;omega),if_pos (by omega),if_neg (by unfold has;omega)];rfl
  ·rw[if_neg h1,if_neg (by omega),if_neg (by unfold has;omega),if_neg (by omega)];rfl
theorem ok_over {f g:Int} {l u:List Ex} (hl:Ok g l) (hu:Ok f u):Ok f (overF l f u):=by
 induction u generalizing f with
 |nil=>exact ok_clips hl (by omega)
 |cons x u ih=>
  rw[overF]
  exact ok_append (ok_clips hl (by omega)) ⟨hu.1,Int.le_refl _,ih hu.2.2⟩ (ends_clips _ _ _) hu.2.1
def above (a:Int) (l:List Ex):Nat:=(l.filter fun x=>decide (a<x.en)).length
theorem above_cons (a:Int) (x:Ex) (l:List Ex):above a (x::l)=(if a<x.en then 1 else 0)+above a l:=by
 unfold above
 by_cases h:a<x.en
 ·rw[List.filter_cons_of_pos (by simpa using h),if_pos h,List.length_cons];omega
 ·rw[List.filter_cons_of_neg (by simpa using h),if_neg h];omega
theorem above_le (a:Int) (l:List Ex):above a l≤l.length:=List.length_filter_le _ _
theorem above_mono {a b:Int} (h:a≤b) (l:List Ex):above b l≤above a l:=by
 induction l with
 |nil=>exact Nat.le_refl _
 |cons x r ih=>
  rw[above_cons,above_cons]
  by_cases h1:b<x.en
  ·rw[if_pos h1,if_pos (by omega)];omega
  ·rw[if_neg h1];omega
theorem above_all {f a:Int} {l:List Ex} (h:Ok f l) (ha:a≤f):above a l=l.length:=by
 induction l generalizing f with
 |nil=>rfl
 |cons x r ih=>
  have hx:=en_lt h.1
  have hf:=h.2.1
  rw[above_cons,if_pos (by omega),ih h.2.2 (by omega),List.length_cons];omega
theorem clips_above {f a b:Int} {l:List Ex} (h:Ok f l) (hab:a≤b):(clips a b l).length+above b l≤above a l+1:=by
 by_cases hlt:a<b
 ·induction l generalizing f with
  |nil=>rw[clips_nil];exact Nat.le_succ _
  |cons x r ih=>
   have hx:=en_lt h.1
   have ihr:=ih h.2.2
   rw[clips_cons hlt,above_cons,above_cons]
   by_cases h1:a<x.en
   ·rw[if_pos h1]
    by_cases h2:x.lba<b
    ·rw[if_pos ⟨h1,h2⟩,List.length_cons]
     by_cases h3:b<x.en
     ·rw[if_pos h3,clips_ahead h.2.2 (by omega),above_all h.2.2 (by omega),above_all h.2.2 (by omega),List.length_nil];omega
     ·rw[if_neg h3];omega
    ·rw[if_neg (by omega)]
     split<;>omega
   ·rw[if_neg h1,if_neg (by omega),if_neg (by omega)];omega
 ·rw[clips_none (by omega),List.length_nil]
  have:=above_mono hab l
  omega
theorem over_len {f g:Int} {l u:List Ex} (hl:Ok g l) (hu:Ok f u):(overF l f u).length≤above f l+2*u.length:=by
 induction u generalizing f with
 |nil=>
  rw[overF]
  unfold clips
  cases decide (f<1099511627776)
  ·exact Nat.zero_le _
  ·rw[cond_true,List.length_map]
   refine Nat.le_trans ?_ (Nat.le_add_right _ _)
   unfold above
   rw[←List.countP_eq_length_filter,←List.countP_eq_length_filter]
   refine List.countP_mono_left fun x _ hx=> ?_
   rw[touch_iff] at hx
   exact decide_eq_true hx.1
 |cons x u ih=>
  have h1:=ih hu.2.2
  have h2:=clips_above (b:=x.lba) hl hu.2.1
  have h3:=above_mono (Int.le_of_lt (en_lt hu.1)) l
  rw[overF,List.length_append,List.length_cons,List.length_cons]
  omega
theorem overE_len {g:Int} {l u:List Ex} (hl:Ok g l) (hu:Ok 0 u):(overE l u).length≤l.length+2*u.length:=by
 have h1:=over_len hl hu
 have h2:=above_le 0 l
 unfold overE
 omega
theorem over_past {f:Int} {l u:List Ex} (hl:Ends f l) (hu:Ok f u):overF l f u=u:=by
 induction u generalizing f with
 |nil=>exact clips_past hl
 |cons x u ih=>
  have hx:=en_lt hu.1
  have hf:=hu.2.1
  rw[overF,clips_past hl,ih (fun y hy=>by have:=hl y hy;omega) hu.2.2];rfl
def goB (x y:Ex):Bool:=(y.lba==x.en&&(y.ver==x.ver&&y.zone==x.zone))&&(x.zone== -1||y.off==x.off+x.n*16)
theorem goB_iff {x y:Ex}:goB x y=true↔(y.lba=x.en∧y.ver=x.ver∧y.zone=x.zone)∧(x.zone= -1∨y.off=x.off+x.n*16):=by
 unfold goB;simp only[Bool.and_eq_true,Bool.or_eq_true,beq_iff_eq]
def grow (x:Ex) (m:Int):Ex:=⟨x.lba,x.n+m,x.ver,x.zone,x.off⟩
def jn:Ex→List Ex→List Ex
 |z,[]=> [z]
 |z,x::r=>bif goB z x then jn (grow z x.n) r else z::jn x r
def joinE:List Ex→List Ex
 | []=> []
 |x::r=>jn x r
def pushE:List Ex→Ex→List Ex
 | [],x=> [x]
 |z::r,x=>match r with
  | []=>bif goB z x then [grow z x.n] else [z,x]
  |y::s=>z::pushE (y::s) x
theorem pushE_snoc (a:List Ex) (z x:Ex):pushE (a++ [z]) x=bif goB z x then a++ [grow z x.n] else a++ [z]++ [x]:=by
 induction a with
 |nil=>rw[List.nil_append,pushE];cases goB z x<;>rfl
 |cons y a ih=>
  rw[List.cons_append]
  rcases h:a++ [z] with _|⟨w,s⟩
  ·simp at h
  ·rw[pushE,←h,ih];cases goB z x<;>rfl
def joinF (acc:List Ex) (l:List Ex):List Ex:=l.foldl pushE acc
theorem joinF_app (acc a b:List Ex):joinF acc (a++b)=joinF (joinF acc a) b:=by unfold joinF;rw[List.foldl_append]
theorem joinF_jn (a:List Ex) (z:Ex) (r:List Ex):joinF (a++ [z]) r=a++jn z r:=by
 induction r generalizing a z with
 |nil=>rfl
 |cons x r ih=>
  show joinF (pushE (a++ [z]) x) r=_
  rw[pushE_snoc,jn]
  cases goB z x
  ·simp only[cond_false]
   rw[ih,List.append_assoc];rfl
  ·simp only[cond_true]
   rw[ih]
theorem joinF_eq (l:List Ex):joinF [] l=joinE l:=by
 cases l with
 |nil=>rfl
 |cons x r=>exact joinF_jn [] x r
theorem grow_en {z x:Ex} (h:goB z x=true):(grow z x.n).en=x.en:=by
 have:=(goB_iff.1 h).1.1
 show z.lba+(z.n+x.n)=_
 unfold Ex.en at*;omega
theorem grow_may {z x:Ex} (h:goB z x=true) (hz:MayX z) (hx:MayX x):MayX (grow z x.n):=by
 obtain⟨⟨g1,g2,g3⟩,g4⟩:=goB_iff.1 h
 obtain⟨m1,m2,m3,m4,m5⟩:=hz
 obtain⟨k1,k2,k3,k4,k5⟩:=hx
 unfold Ex.en at g1
 refine⟨m1,by show 1≤z.n+x.n;omega,by show z.lba+(z.n+x.n)≤_;omega,m4,?_⟩
 show z.zone= -1∧z.off=0∨0≤z.zone∧z.zone≤_∧0≤z.off∧z.off+16*(z.n+x.n)≤_
 rcases m5 with m5|m5
 ·exact .inl m5
 ·right
  rcases k5 with k5|k5
  ·omega
  ·rcases g4 with g4|g4<;>omega
theorem jn_ok {f:Int} {z:Ex} {r:List Ex} (h:Ok f (z::r)):Ok f (jn z r):=by
 induction r generalizing f z with
 |nil=>exact h
 |cons x r ih=>
  rw[jn]
  rcases e:goB z x
  ·exact⟨h.1,h.2.1,ih h.2.2⟩
  ·refine ih ⟨grow_may e h.1 h.2.2.1,h.2.1,?_⟩
   rw[grow_en e];exact h.2.2.2.2
theorem grow_tell {z x:Ex} (h:goB z x=true) (hz:MayX z) (hx:MayX x) (r:List Ex) (k:Int):tell (grow z x.n::r) k=tell (z::x::r) k:=by
 obtain⟨⟨g1,g2,g3⟩,g4⟩:=goB_iff.1 h
 have e1:=en_lt hz
 have e2:=en_lt hx
 have e3:=grow_en h
 have e4:z.en=z.lba+z.n:=rfl
 have hb:blk (grow z x.n) k=blk z k:=rfl
 rw[tell,tell,tell,hb]
 by_cases h1:has z k
 ·rw[if_pos h1,if_pos (by unfold has at*;rw[e3];show z.lba≤k∧_;omega)]
 ·rw[if_neg h1]
  by_cases h2:has x k
  ·rw[if_pos h2,if_pos (by unfold has at*;rw[e3];show z.lba≤k∧_;omega)]
   unfold blk
   rw[g2,g3]
   by_cases h3:z.zone= -1
   ·simp[h3]
   ·simp only[if_neg h3,Option.some.injEq,Prod.mk.injEq,true_and]
    rcases g4 with g4|g4
    ·exact absurd g4 h3
    ·omega
  ·rw[if_neg h2,if_neg (by unfold has at*;rw[e3];show ¬(z.lba≤k∧_);omega)]
theorem jn_tell {f:Int} {z:Ex} {r:List Ex} (h:Ok f (z::r)) (k:Int):tell (jn z r) k=tell (z::r) k:=by
 induction r generalizing f z with
 |nil=>rfl
 |cons x r ih=>
  rw[jn]
  rcases e:goB z x
  ·show tell (z::jn x r) k=_
   rw[tell,tell,ih h.2.2]
  ·show tell (jn (grow z x.n) r) k=_
   have hg:Ok f (grow z x.n::r):=⟨grow_may e h.1 h.2.2.1,h.2.1,by rw[grow_en e];exact h.2.2.2.2⟩
   rw[ih hg,grow_tell e h.1 h.2.2.1]
theorem jn_len (z:Ex) (r:List Ex):(jn z r).length≤r.length+1:=by
 induction r generalizing z with
 |nil=>exact Nat.le_refl _
 |cons x r ih=>
  rw[jn]
  cases goB z x
  ·exact Nat.succ_le_succ (ih x)
  ·exact Nat.le_trans (ih _) (Nat.le_succ _)
def Can:List Ex→Prop
 | []=>True
 |x::r=>(∀y,r.head? =some y→goB x y=false)∧Can r
theorem join_ok {f:Int} {l:List Ex} (h:Ok f l):Ok f (joinE l):=by cases l with|nil=>trivial|cons x r=>exact jn_ok h
theorem join_tell {f:Int} {l:List Ex} (h:Ok f l) (k:Int):tell (joinE l) k=tell l k:=by cases l with|nil=>rfl|cons x r=>exact jn_tell h k
theorem join_len (l:List Ex):(joinE l).length≤l.length:=by cases l with|nil=>exact Nat.le_refl _|cons x r=>exact jn_len x r
def stackP (e:List Ex):List Ex:=if h:e.length≤1 then e else overE (stackP (e.take (e.length/2))) (stackP (e.drop (e.length/2)))
termination_by e.length
decreasing_by
 ·rw[List.length_take];omega
 ·rw[List.length_drop];omega
theorem stackP_one {e:List Ex} (h:e.length≤1):stackP e=e:=by rw[stackP,dif_pos h]
theorem stackP_many {e:List Ex} (h:¬e.length≤1):stackP e=overE (stackP (e.take (e.length/2))) (stackP (e.drop (e.length/2))):=by rw[stackP,dif_neg h]
theorem sq_split (n:Nat) (h:2≤n):(n/2)*(n/2)+2*((n-n/2)*(n-n/2))≤n*n:=by
 obtain⟨a,ha⟩:∃a,a=n/2:=⟨_,rfl⟩
 rw[←ha]
 rcases Nat.mod_two_eq_zero_or_one n with h0|h0
 ·have:n=2*a:=by omega
  subst this
  rw[show 2*a-a=a by omega,show 2*a*(2*a)=4*(a*a) by rw[Nat.mul_mul_mul_comm]]
  omega
 ·have:n=2*a+1:=by omega
  subst this
  obtain⟨b,rfl⟩:∃b,a=b+1:=⟨a-1,by omega⟩
  rw[show 2*(b+1)+1-(b+1)=b+2 by omega]
  simp only[Nat.add_mul,Nat.mul_add]
  have:0≤b*b:=Nat.zero_le _
  have e1:2*b*(2*b)=4*(b*b):=by rw[Nat.mul_mul_mul_comm]
  omega
theorem stack_ok {n:Nat}:∀ {e:List Ex},e.length≤n→(∀x∈e,MayX x)→Ok 0 (stackP e)∧(stackP e).length≤e.length*e.length:=by
 induction n with
 |zero=>
  intro e hn h
  have:e= []:=List.eq_nil_of_length_eq_zero (by omega)
  subst this
  rw[stackP_one (by simp)]
  exact⟨trivial,Nat.le_refl _⟩
 |succ n ih=>
  intro e hn h
  by_cases h1:e.length≤1
  ·rw[stackP_one h1]
   match e,h1 with
   | [],_=>exact⟨trivial,Nat.le_refl _⟩
   | [x],_=>exact⟨⟨h x List.mem_cons_self,(h x List.mem_cons_self).1,trivial⟩,Nat.le_refl _⟩
  ·obtain⟨o1,l1⟩:=ih (e:=e.take (e.length/2)) (by rw[List.length_take];omega) fun x hx=>h x (List.mem_of_mem_take hx)
   obtain⟨o2,l2⟩:=ih (e:=e.drop (e.length/2)) (by rw[List.length_drop];omega) fun x hx=>h x (List.mem_of_mem_drop hx)
   rw[stackP_many h1]
   refine⟨ok_over o1 o2,Nat.le_trans (overE_len o1 o2) ?_⟩
   rw[List.length_take,Nat.min_eq_left (by omega)] at l1
   rw[List.length_drop] at l2
   have:=sq_split e.length (by omega)
   omega
def putE (l e:List Ex):List Ex:=joinE (overE l (stackP e))
theorem put_ok {f:Int} {l e:List Ex} (hl:Ok f l) (he:∀x∈e,MayX x):Ok 0 (putE l e):=join_ok (ok_over hl (stack_ok (Nat.le_refl _) he).1)
theorem ok_zero {f:Int} {l:List Ex} (hl:Ok f l):Ok 0 l:=by
 cases l with
 |nil=>trivial
 |cons x r=>exact⟨hl.1,hl.1.1,hl.2.2⟩
def rangeB (a n:Int):Bool:=decide (0≤a)&&(decide (1≤n)&&decide (a≤1099511627776-n))
theorem rangeB_iff {a n:Int}:rangeB a n=true↔0≤a∧1≤n∧a+n≤1099511627776:=by
 unfold rangeB;simp only[Bool.and_eq_true,decide_eq_true_eq];omega
def cutL (l:List Ex) (a n:Int):List Ex:=clips 0 a l++clips (a+n) 1099511627776 l
def gap (f t:Int):List Ex:=bif decide (f<t) then [⟨f,t-f,0,-1,0⟩] else []
def gapF (t:Int):Int→List Ex→List Ex
 |f,[]=>gap f t
 |f,x::r=>gap f x.lba++gapF t x.en r
theorem gap_tell (f t k:Int):tell (gap f t) k=if f≤k∧k<t then some (0,-1,0) else none:=by
 unfold gap
 by_cases h:f<t
 ·rw[decide_eq_true h,cond_true,tell,tell]
  have e:(⟨f,t-f,0,-1,0⟩:Ex).en=t:=by show f+(t-f)=t;omega
  have hh:has (⟨f,t-f,0,-1,0⟩:Ex) k↔f≤k∧k<t:=by unfold has;rw[e]
  by_cases h2:f≤k∧k<t
  ·rw[if_pos h2,if_pos (hh.2 h2)];rfl
  ·rw[if_neg h2,if_neg (fun q=>h2 (hh.1 q))]
 ·rw[decide_eq_false h,cond_false,if_neg (by omega)];rfl
theorem gap_len (f t:Int):(gap f t).length≤1:=by unfold gap;cases decide (f<t)<;>simp
theorem gaps_len (t f:Int) (p:List Ex):(gapF t f p).length≤p.length+1:=by
 induction p generalizing f with
 |nil=>exact gap_len f t
 |cons x r ih=>rw[gapF,List.length_append,List.length_cons];have:=gap_len f x.lba;have:=ih x.en;omega
def manyE:List Ex→Int
 | []=>0
 |x::r=>x.n+manyE r
def cnt (p:Int→Bool):Nat→Nat
 |0=>0
 |n+1=>cnt p n+(bif p (n:Int) then 1 else 0)
theorem cnt_congr {p q:Int→Bool} {N:Nat} (h:∀k:Nat,k<N→p k=q k):cnt p N=cnt q N:=by
 induction N with
 |zero=>rfl
 |succ n ih=>rw[cnt,cnt,ih fun k hk=>h k (by omega),h n (by omega)]
theorem cnt_or {p q:Int→Bool} {N:Nat} (h:∀k:Nat,k<N→(p k&&q k)=false):cnt (fun k=>p k||q k) N=cnt p N+cnt q N:=by
 induction N with
 |zero=>rfl
 |succ n ih=>
  have h1:=h n (by omega)
  rw[cnt,cnt,cnt,ih fun k hk=>h k (by omega)]
  cases hp:p (n:Int)<;>cases hq:q (n:Int)<;>simp_all<;>omega
theorem cnt_range {a b:Int} {N:Nat} (ha:0≤a) (hab:a≤b) (hb:b≤N):(cnt (fun k=>decide (a≤k∧k<b)) N:Int)=b-a:=by
 induction N generalizing b with
 |zero=>have:a=b:=by omega
        subst this;simp[cnt]
 |succ n ih=>
  rw[cnt]
  by_cases h:b≤n
  ·rw[decide_eq_false (by omega),cond_false,Nat.add_zero]
   exact ih hab h
  ·have hbn:b=n+1:=by omega
   by_cases h2:a=b
   ·rw[decide_eq_false (by omega),cond_false,Nat.add_zero]
    rw[cnt_congr (q:=fun k=>decide (a≤k∧k<(n:Int))) fun k hk=>by rw[decide_eq_decide];omega]
    have:cnt (fun k=>decide (a≤k∧k<(n:Int))) n=cnt (fun _=>false) n:=cnt_congr fun k hk=>decide_eq_false (by omega)
    rw[this]
    have hz:∀m,cnt (fun _=>false) m=0:=fun m=>by induction m with|zero=>rfl|succ m ihm=>rw[cnt,ihm];rfl
    rw[hz];omega
   ·rw[decide_eq_true (by omega),cond_true]
    rw[cnt_congr (q:=fun k=>decide (a≤k∧k<(n:Int))) fun k hk=>by rw[decide_eq_decide];omega]
    have:=ih (b:=n) (by omega) (Int.le_refl _)
    omega
theorem cnt_zero (N:Nat):cnt (fun _=>false) N=0:=by induction N with|zero=>rfl|succ m ihm=>rw[cnt,ihm];rfl
theorem many_cnt {f:Int} {l:List Ex} {N:Nat} (h:Ok f l) (he:Ends N l):manyE l=cnt (fun k=>(tell l k).isSome) N:=by
 induction l generalizing f with
 |nil=>show(0:Int)=_;rw[show(fun k=>(tell [] k).isSome)=fun _=>false from rfl,cnt_zero];rfl
 |cons x r ih=>
  have hx:=en_lt h.1
  have h0:=h.1.1
  have hN:=he x List.mem_cons_self
  rw[manyE,ih h.2.2 fun y hy=>he y (List.mem_cons_of_mem _ hy)]
  have e1:cnt (fun k=>(tell (x::r) k).isSome) N=cnt (fun k=>decide (x.lba≤k∧k<x.en)||(tell r k).isSome) N:=cnt_congr fun k _=>by
   rw[tell]
   by_cases hk:has x k
   ·rw[if_pos hk,decide_eq_true (show x.lba≤(k:Int)∧(k:Int)<x.en from hk)];rfl
   ·rw[if_neg hk,decide_eq_false (show ¬(x.lba≤(k:Int)∧(k:Int)<x.en) from hk)];rfl
  rw[e1,cnt_or fun k _=> ?_]
  ·have:=cnt_range h0 (Int.le_of_lt hx) hN
   have e:x.en=x.lba+x.n:=rfl
   omega
  ·by_cases hk:(k:Int)<x.en
   ·rw[tell_low h.2.2 hk];simp
   ·rw[decide_eq_false (by omega)];rfl
theorem many_nonneg {f:Int} {l:List Ex} (h:Ok f l):0≤manyE l∧manyE l≤1099511627776:=by
 suffices hs:∀ {f:Int},Ok f l→0≤manyE l∧(0≤f→f≤1099511627776→f+manyE l≤1099511627776) by
  have h0:=hs (ok_zero h)
  exact⟨h0.1,by have:=h0.2 (by omega) (by omega);omega⟩
 clear h f
 induction l with
 |nil=>intro f _;exact⟨Int.le_refl _,fun _ h=>by rw[manyE];omega⟩
 |cons x r ih=>
  intro f h
  have h1:=ih h.2.2
  have h2:=en_le h.1
  have h3:=en_lt h.1
  have h4:=h.2.1
  have h5:x.en=x.lba+x.n:=rfl
  have h6:=h.1.1
  rw[manyE]
  refine⟨by omega,fun _ _=> ?_⟩
  have:=h1.2 (by omega) h2
  omega
end Ext
end
section
open Go.ChangeShapes Go.WideShapes Go.ChangeAt Go.RowKit
namespace Frame
theorem own:ownKnob Tryz.prog.godebug=none:=by kernel_rfl
theorem laidOut:laidOutB Tryz.prog=true:=by kernel_rfl
theorem trodAll_lt {H:Type} {enc:TypeId × Value→H} {P:Program} {W:World}:∀ {ts:List TypeId} {vs:List Value} {ds:List (DataW H)} {ps:List MemPlace},
  DataW.TrodAll enc P W 0 (fun _=>true) true ts vs ds ps→∀x∈ps,x.block<W.heap.size
 | [],vs,ds,ps,h=>by
   obtain⟨rfl,rfl,rfl⟩:=trodAll_nil h
   intro x hx
   cases hx
 |t::ts,vs,ds,ps,h=>by
  obtain⟨v,vs',d,ds',p,q,rfl,rfl,rfl,h0,h1⟩:=trodAll_cons h
  intro x hx
  rcases List.mem_append.1 hx with hx|hx
  ·obtain⟨m,hm⟩:=h0
   exact DataW.trod_lt m _ _ _ hm x hx
  ·exact trodAll_lt h1 x hx
theorem trodAll_back {H:Type} {enc:TypeId × Value→H} {P:Program} (hl:laidOutB P=true) {W W':World} (hb:Below W.heap.size W W'):∀ {ts:List TypeId} {vs:List Value} {ds:List (DataW H)} {ps:List MemPlace},
  (ts.all fun t=>P.readableRec t&&decide (t<P.types.size))=true→DataW.TrodAll enc P W 0 (fun _=>true) true ts vs ds ps→DataW.TrodAll enc P W' 0 (fun b=>decide (b<W.heap.size)) true ts vs ds ps
 | [],vs,ds,ps,_,h=>by
   obtain⟨rfl,rfl,rfl⟩:=trodAll_nil h
   exact trodAll_mk0
 |t::ts,vs,ds,ps,hr,h=>by
  have hlt:=trodAll_lt h
  obtain⟨v,vs',d,ds',p,q,rfl,rfl,rfl,h0,h1⟩:=trodAll_cons h
  simp only[List.all_cons,Bool.and_eq_true,decide_eq_true_eq] at hr
  exact trodAll_cons_mk (Below.trod hl hr.1.1 hr.1.2 h0 hb fun x hx=>hlt x (List.mem_append_left _ hx)) (trodAll_back hl hb (by simpa using hr.2) h1)
theorem trodAll_len {H:Type} {enc:TypeId × Value→H} {P:Program} {W:World} {base:Nat} {sp:Nat→Bool} {hd:Bool}:∀ {ts:List TypeId} {vs:List Value} {ds:List (DataW H)} {ps:List MemPlace},
  DataW.TrodAll enc P W base sp hd ts vs ds ps→ds.length=ts.length
 | [],vs,ds,ps,h=>by
   obtain⟨rfl,rfl,rfl⟩:=trodAll_nil h
   rfl
 |t::ts,vs,ds,ps,h=>by
  obtain⟨v,vs',d,ds',p,q,rfl,rfl,rfl,h0,h1⟩:=trodAll_cons h
  simp[trodAll_len h1]
structure Says (s:ChangeSpec) (n:Nat):Prop where
 vars:s.vars= []
 results:∀(H:Type) (ds:List (DataW H)),ds.length=n→(s.fn H ds).results= [.lit (.bool true)]
 args:∀(H:Type) (ds:List (DataW H)),ds.length=n→(s.fn H ds).args=ds
 left:∀(H:Type) (ds:List (DataW H)),ds.length=n→(s.fn H ds).vars= []
def Walks (F:FuncId) (ts:List TypeId):Prop:=
 ∀(H:Type) (enc:TypeId × Value→H) (W:World) (args:Array Value) (ds:List (DataW H)) (ps:List MemPlace) (base:Nat),
  (∀(j:Nat) t v,ts[j]? =some t→args[j]? =some v→Value.okWide Tryz.prog W .any base t v)→
  DataW.TrodAll enc Tryz.prog W 0 (fun _=>true) true ts args.toList ds ps→
  (DataW.weightsEach Tryz.prog ts ds).all (· ≤reachBytes)=true→
  Calls Tryz.prog F args W fun e w'=>e= .returned (.bool true)∧Below W.heap.size W w'
theorem lifted {os:Os} {started:os.Started} {H:Type} {enc:TypeId × Value→H} {F:FuncId} {fn:Func} {s:ChangeSpec} {boolT:TypeId} (hu:Tryz.prog.underlying boolT=some .bool)
  (hini:Tryz.checked.prog.inits.idxOf? F=none) (hfn:Tryz.checked.prog.funcs[F]? =some fn) {n:Nat} (hn:fn.params.toList.length=n) (hs:Says s n)
  (hread:(fn.params.toList.all fun t=>Tryz.prog.readableRec t&&decide (t<Tryz.prog.types.size))=true) (hres:fn.resultTypes= #[boolT])
  (witness:∃(w:World) (tape:Tape) (i:Input),w.os=os∧(w.forCall tape i).Shaped Tryz.checked.prog∧i.vars= []∧Input.okWide Tryz.checked.prog (w.forCall tape i) .any w.heap.size F i∧
   s.pre6 enc Tryz.checked.prog fn [] false (w.forCall tape i).memory i.args∧({}:Assume).holds Tryz.checked.prog (lone (Frame.enter Tryz.checked.prog F i.args .normal) [] (w.forCall tape i)))
  (walk:Walks F fn.params.toList):
  ReturnsInHanded {} Tryz.checked os F .any (s.pre6 enc Tryz.prog fn [] false) (s.post enc Tryz.prog fn false true false false):=by
 refine returnsInHanded_of_change_sized (C:=Tryz.checked) own started hini hfn witness ?_
 intro W base args ds gs before hval0 hW _ hsz0 _
 have hsz:(DataW.weightsEach Tryz.prog (fn.params.toList++s.plain.varTypes Tryz.prog) (ds++gs)).all (· ≤reachBytes)=true:=hsz0
 have hval:∀(j:Nat) t v,fn.params[j]? =some t→args[j]? =some v→Value.okWide Tryz.prog W .any base t v:=hval0
 have hW':=hW
 obtain⟨p,q,hA0,hV,rfl,hfz,hnd⟩:=hW
 have hA:DataW.TrodAll enc Tryz.prog W 0 (fun _=>true) true fn.params.toList args.toList ds p:=hA0
 have hlen:ds.length=n:=(trodAll_len hA).trans hn
 have hvar:s.plain.varTypes Tryz.prog= []:=by
  simp[DataSpec.varTypes,ChangeSpec.plain,hs.vars]
 rw[hs.vars] at hV
 obtain⟨rfl,rfl⟩:=trodVars_none hV
 rw[hvar,List.append_nil,List.append_nil] at hsz
 refine(walk H enc W args ds p base (fun j t v h1 h2=>hval j t v (by simpa using h1) h2) hA hsz).mono fun e W' ⟨he,bel⟩=> ?_
 subst he
 refine⟨_,rfl,ds,[],_,[],p,[],hW',?_,?_,?_,bel.frame _,fun h=>by cases h⟩
 ·rw[List.append_nil,hs.results H ds hlen,hres]
  exact trodAll_mk1 (shut_bool hu _)
 ·rw[List.append_nil,hs.args H ds hlen]
  exact trodAll_back laidOut bel hread hA
 ·rw[List.append_nil,hs.left H ds hlen,hs.vars]
  rfl
end Frame
end
section
open Go.ChangeShapes Go.WideShapes Go.ChangeAt Go.RowKit Mem
namespace Args
variable {H:Type} {enc:TypeId × Value→H} {W:World}
def byte (n:Int):BitVec 8:=BitVec.ofInt 8 n
theorem sized_arg {ts:List TypeId} {ds:List (DataW H)} (h:(DataW.weightsEach Tryz.prog ts ds).all (· ≤reachBytes)=true) {j:Nat} {t:TypeId} {d:DataW H} (ht:ts[j]? =some t) (hd:ds[j]? =some d):∀q∈d.weights Tryz.prog t,q≤reachBytes:=by
 intro q hq
 have:=List.all_eq_true.1 h q (DataW.weights_mem_each ht hd q hq)
 simpa using this
end Args
end
section
open Go.ChangeShapes Go.WideShapes Go.ChangeAt Go.RowKit Mem
structure RowS {α:Type} (cells:α→List Value) (k:Nat) (w:World) (A:Option Addr) (n c:Nat) (xs:List α):Prop where
 len:xs.length=n
 cap:n≤c
 big:n≤140737488351232
 at_:0<n→∃b o,A=some ⟨b,o,none⟩∧b<w.heap.size∧∀i x,xs[i]? =some x→∀j u,(cells x)[j]? =some u→w.cell? ⟨b,o+i*k+j,none⟩=some u
section
variable {α:Type} {cells:α→List Value} {k:Nat} {w w':World} {A:Option Addr} {n c:Nat} {xs:List α}
theorem RowS.nil (cells:α→List Value) (k:Nat) (w:World):RowS cells k w none 0 0 []:=⟨rfl,by omega,by omega,fun h=>absurd h (by omega)⟩
theorem RowS.below (h:RowS cells k w A n c xs) (hb:Below w.heap.size w w'):RowS cells k w' A n c xs:=by
 refine⟨h.len,h.cap,h.big,fun h0=> ?_⟩
 obtain⟨b,o,e,hx,hc⟩:=h.at_ h0
 refine⟨b,o,e,Nat.lt_of_lt_of_le hx hb.size,fun i x hi j u hu=> ?_⟩
 rw[World.cell?_of_block (w:=w) (hb.block b hx)]
 exact hc i x hi j u hu
theorem RowS.get (h:RowS cells k w A n c xs) {i:Nat} (hi:i<n):∃x,xs[i]? =some x:=⟨_,List.getElem?_eq_getElem (by have:=h.len;omega)⟩
theorem RowS.elem (h:RowS cells k w A n c xs) {i:Nat} {x:α} (hx:xs[i]? =some x):∃b o,A=some ⟨b,o,none⟩∧b<w.heap.size∧∀W:World,W.heap[b]? =w.heap[b]? →∀j u,(cells x)[j]? =some u→W.cell? ⟨b,o+i*k+j,none⟩=some u:=by
 have:i<xs.length:=(List.getElem?_eq_some_iff.1 hx).1
 obtain⟨b,o,e,hb,hc⟩:=h.at_ (by have:=h.len;omega)
 refine⟨b,o,e,hb,fun W hW j u hu=> ?_⟩
 rw[World.cell?_of_block (w:=w) hW]
 exact hc i x hx j u hu
end
namespace Args
variable {H:Type} {enc:TypeId × Value→H} {W:World}
theorem weights_of {t:TypeId}:∀(l:List (DataW H)) (e:DataW H),e∈l→∀q∈e.weights Tryz.prog t,q∈DataW.weightsAll Tryz.prog t l:=by
 intro l
 induction l with
 |nil=>intro e he;cases he
 |cons y l ih=>
  intro e he q hq
  simp only[DataW.weightsAll,List.mem_append]
  rcases List.mem_cons.1 he with rfl|he
  ·exact .inl hq
  ·exact .inr (ih e he q hq)
theorem open_rowS {α:Type} {cells:α→List Value} {k bytes:Nat} {p:α→Prop} {t e:TypeId} (hu:Tryz.prog.underlying t=some (.slice e)) (hC:Tryz.prog.cellsOf e=k) (hB:Tryz.prog.bytesOf e=bytes) (hb1:1≤bytes) (hk:0<k)
  (raw:∀(fuel:Nat) (cs:List Value) (x:DataW H × List MemPlace),DataW.trod enc Tryz.prog W 0 (fun _=>true) true fuel e cs=some x→cs.length=k→(∀q∈x.1.weights Tryz.prog e,q≤reachBytes)→∃v:α,cs=cells v∧p v)
  {v:Value} {d:DataW H} {ps:List MemPlace} {base:Nat} (hok:Value.okWide Tryz.prog W .any base t v) (h:DataW.Trod enc Tryz.prog W 0 (fun _=>true) true t v d ps)
  (hs:∀q∈d.weights Tryz.prog t,q≤reachBytes):∃A n c xs,v= .slice A n c∧RowS cells k W A n c xs∧∀x∈xs,p x:=by
 obtain⟨a0,len0,cap0,rfl⟩:=okWide_slice hu hok
 obtain⟨fuel,hf⟩:=h
 rcases Go.Deep.open_slice hu hf with⟨hcs,_⟩|⟨a,len,cap,m,n,D,Pl,hcs,hb,hl,hm,hmm,hx,hi⟩
 ·simp[Value.cells] at hcs
  obtain⟨rfl,rfl,rfl⟩:=hcs
  exact⟨none,0,0,[],rfl,RowS.nil _ _ _,by simp⟩
 ·simp[Value.cells] at hcs
  obtain⟨rfl,rfl,rfl⟩:=hcs
  simp only[if_true] at hmm
  subst hmm
  simp only[Prod.mk.injEq] at hx
  obtain⟨rfl,rfl⟩:=hx
  have hw:=hs ((len0+(m-len0))*bytes) (by simp[DataW.weights,hu,hB])
  have hbig:len0≤140737488351232:=by
   simp only[reachBytes] at hw
   have:len0*1≤(len0+(m-len0))*bytes:=Nat.mul_le_mul (by omega) hb1
   omega
  rcases Nat.eq_zero_or_pos len0 with h0|h0
  ·subst h0
   exact⟨_,0,m,[],rfl,⟨rfl,by omega,by omega,fun h=>absurd h (by omega)⟩,by simp⟩
  ·have hex:∀i,i<len0→∃v:α,(∀j u,(cells v)[j]? =some u→W.cell? (a.add (i*k+j))=some u)∧p v∧(cells v).length=k:=by
     intro i hil
     obtain⟨cs',hc,ht⟩:=hi i (by omega)
     rw[hC] at hc
     obtain⟨_,hcl,hat⟩:=World.cells?_some hc
     obtain⟨v,rfl,hp⟩:=raw _ _ _ ht hcl (fun q hq=>by
      refine hs q ?_
      simp only[DataW.weights,hu,List.mem_cons,List.mem_append]
      exact .inr (.inl (weights_of _ _ (List.mem_map.2 ⟨i,List.mem_range.2 hil,rfl⟩) q hq)))
     refine⟨v,fun j u hj=> ?_,hp,hcl⟩
     have hjl:j<k:=by have:=(List.getElem?_eq_some_iff.1 hj).1;omega
     rw[←Go.Deep.add_add,hat j hjl,hj]
   obtain⟨f,hf⟩:=Classical.axiomOfChoice (r:=fun(i:Fin len0) (v:α)=>(∀j u,(cells v)[j]? =some u→W.cell? (a.add (i.1*k+j))=some u)∧p v∧(cells v).length=k) (fun i=>hex i.1 i.2)
   obtain⟨b,o,s⟩:=a
   obtain⟨u0,hu0⟩:∃u,(cells (f ⟨0,h0⟩))[0]? =some u:=⟨_,List.getElem?_eq_getElem (by have:=(hf ⟨0,h0⟩).2.2;omega)⟩
   have hc0:=(hf ⟨0,h0⟩).1 0 _ hu0
   have hsp:s=none:=by simpa [Addr.add] using World.cell?_spot hc0
   subst hsp
   have hblk:b<W.heap.size:=World.block_lt_of_cell? W ⟨b,o,none⟩ (by simpa [Addr.add] using hc0)
   refine⟨_,len0,m,List.ofFn f,rfl,⟨by simp,by omega,hbig,fun _=>⟨b,o,rfl,hblk,fun i x hx j u hu=> ?_⟩⟩,fun x hx=> ?_⟩
   ·rw[List.getElem?_ofFn] at hx
    split at hx
    ·rename_i hil
     simp only[Option.some.injEq] at hx
     subst hx
     have:=(hf ⟨i,hil⟩).1 j u hu
     rw[add_none] at this
     rwa [Nat.add_assoc]
    ·cases hx
   ·obtain⟨i,rfl⟩:=List.mem_ofFn.1 hx
    exact(hf i).2.1
end Args
end
section
open Go
namespace Reg
variable {P:Program} {ops:Array Oper} {Q:Exit→Act→World→Prop} {S:World→Prop} {md:Region.Mode}
theorem take (i:Nat) {d:Option Tmp} {op:Op} {ty:TypeId} {ps:String} {af:Array _} {g:Option _} {v:Value} {fuel:Nat} {listed:Array Bool} {a:Act} {w:World} (hi:ops[i]? =some {dst:=d,op:=op,type:=ty,pos:=ps,after:=af,guard:=g})
  (hs:Region.noSelect ops=true) (hf:Region.free md ops listed i=true) (hr:(Region.ready md ops listed).contains i=true)
  (hQ:∀c a w,Q (.panic c) (a.put d v) w→Q (.panic c) a w) (hy:YieldsIf P ops S {dst:=d,op:=op,type:=ty,pos:=ps,after:=af,guard:=g} v a) (hS:S w)
  (h:wpAnyH P md ops Q S fuel (listed.setIfInBounds i true) (a.put d v) w):wpAnyH P md ops Q S (fuel+1) listed a w:=
 wpAnyH_take hi hs hf hr hQ hy hS h
theorem tk (i:Nat) {d:Option Tmp} {op:Op} {ty:TypeId} {ps:String} {af:Array _} {g:Option _} {v:Value} {fuel:Nat} {listed listed':Array Bool} {a a':Act} {w:World} (hi:ops[i]? =some {dst:=d,op:=op,type:=ty,pos:=ps,after:=af,guard:=g})
  (h:wpAnyH P md ops Q S fuel listed' a' w)
  (hs:Region.noSelect ops=true:=by kernel_rfl) (hf:Region.free md ops listed i=true:=by kernel_rfl) (hr:(Region.ready md ops listed).contains i=true:=by kernel_rfl)
  (hQ:∀c a w,Q (.panic c) (a.put d v) w→Q (.panic c) a w:=by exact fun _ _ _ h=>h)
  (hy:YieldsIf P ops S {dst:=d,op:=op,type:=ty,pos:=ps,after:=af,guard:=g} v a:=by
   first
    |(refine Or.inl ⟨by rfl,?_⟩;intro W hSW;(try dsimp only at hSW);(try go_split_ands);go_simp;(try(with_reducible rfl));done)
    |exact Or.inr ⟨by rfl,rfl⟩)
  (hS:S w:=by assumption)
  (hp:a.put d v=a':=by(try simp only[Act.put,List.setIfInBounds_toArray,List.set_cons_zero,List.set_cons_succ]);rfl)
  (hl:listed.setIfInBounds i true=listed':=by(try simp only[List.setIfInBounds_toArray,List.set_cons_zero,List.set_cons_succ]);rfl):
  wpAnyH P md ops Q S (fuel+1) listed a w:=by
 subst hp hl
 exact take i hi hs hf hr hQ hy hS h
theorem step (i:Nat) {d:Option Tmp} {op:Op} {ty:TypeId} {ps:String} {af:Array _} {g:Option _} {fuel:Nat} {listed:Array Bool} {a:Act} {w:World} (hi:ops[i]? =some {dst:=d,op:=op,type:=ty,pos:=ps,after:=af,guard:=g})
  (hr:Region.ready md ops listed= [i]) (hw:Region.wanted {dst:=d,op:=op,type:=ty,pos:=ps,after:=af,guard:=g} (yielded ops a.tmps)=true)
  (h:∀K':Act→World→Prop,Shut (∀a w,S w→(S w→wpAnyH P md ops Q S fuel (listed.setIfInBounds i true) a w)→K' a w)→Oper.wp P {dst:=d,op:=op,type:=ty,pos:=ps,after:=af,guard:=g} a w K' Q):
  wpAnyH P md ops Q S (fuel+1) listed a w:=
 wpAnyH_ready hr (by simp) (AllReadyH.cons hi (fun K hK=>by rw[if_pos hw];exact h K hK) AllReadyH.nil)
theorem step2 (i j:Nat) {d:Option Tmp} {op:Op} {ty:TypeId} {ps:String} {af:Array _} {g:Option _} {d':Option Tmp} {op':Op} {ty':TypeId} {ps':String} {af':Array _} {g':Option _} {fuel:Nat} {listed:Array Bool} {a:Act} {w:World}
  (hi:ops[i]? =some {dst:=d,op:=op,type:=ty,pos:=ps,after:=af,guard:=g}) (hj:ops[j]? =some {dst:=d',op:=op',type:=ty',pos:=ps',after:=af',guard:=g'})
  (hr:Region.ready md ops listed= [i,j]) (hw:Region.wanted {dst:=d,op:=op,type:=ty,pos:=ps,after:=af,guard:=g} (yielded ops a.tmps)=true)
  (hw':Region.wanted {dst:=d',op:=op',type:=ty',pos:=ps',after:=af',guard:=g'} (yielded ops a.tmps)=true)
  (h:∀K':Act→World→Prop,Shut (∀a w,S w→(S w→wpAnyH P md ops Q S fuel (listed.setIfInBounds i true) a w)→K' a w)→Oper.wp P {dst:=d,op:=op,type:=ty,pos:=ps,after:=af,guard:=g} a w K' Q)
  (h':∀K':Act→World→Prop,Shut (∀a w,S w→(S w→wpAnyH P md ops Q S fuel (listed.setIfInBounds j true) a w)→K' a w)→Oper.wp P {dst:=d',op:=op',type:=ty',pos:=ps',after:=af',guard:=g'} a w K' Q):
  wpAnyH P md ops Q S (fuel+1) listed a w:=
 wpAnyH_ready hr (by simp) (AllReadyH.cons hi (fun K hK=>by rw[if_pos hw];exact h K hK) (AllReadyH.cons hj (fun K hK=>by rw[if_pos hw'];exact h' K hK) AllReadyH.nil))
end Reg
end
end Go.Proofs.YtmkagjnkpjpjcaaGreat
