/-
  SEVERAL TEXTS IN ONE FILE: PCrcMath, PCrcWords, PCrcWalkA, PCrcOnce, PCrcApi, PWireMath, PCrcBurstMath, PSegMath, PWireNums.
-/
import Derived.WalkKit
import Derived.Laws.BitsAllLaws
import Derived.Below
import Derived.Laws.OwnMore
import Derived.Deep.AppendLies
import Derived.Deep.Draws
import Derived.Laws.Rows
import Derived.Test.YtmkagjnkpjpjcaaGreatRows
import Derived.LoopTactic
import Derived.Lib.Hide
import Derived.Deep.LoopGhost
import Derived.Tactics
import Derived.Tactics2
import Derived.Defers
import Derived.Laws.Pointers
import Derived.Laws.LoneSync
import Derived.RegionTactic
import Derived.RegionCalls
import Derived.ChangeAlike
import Derived.Laws.NewBlocks
import Derived.Deep.QuietTactic
import Derived.BigQuiet
import Derived.Test.YtmkagjnkpjpjcaaGreatJ02
namespace Go.Proofs.YtmkagjnkpjpjcaaGreat
set_option maxRecDepth 100000
set_option linter.unusedSimpArgs false
set_option linter.unusedVariables false
set_option maxHeartbeats 1600000
section
namespace Crc
def v (c:BitVec 32):Int:=(c.toNat:Int)
def u (x:BitVec 8):Int:=(x.toNat:Int)
def poly:BitVec 32:=0x82f63b78#32
def ones:BitVec 32:=0xffffffff#32
def sh (c:BitVec 32):BitVec 32:=if c.getLsbD 0 then(c>>>1) ^^^ poly else c>>>1
def shn:Nat→BitVec 32→BitVec 32
 |0,c=>c
 |n+1,c=>shn n (sh c)
theorem sh_xor (a b:BitVec 32):sh (a ^^^ b)=sh a ^^^ sh b:=by
 unfold sh
 rw[BitVec.getLsbD_xor,BitVec.ushiftRight_xor_distrib]
 cases a.getLsbD 0<;>cases b.getLsbD 0<;>simp
 ·rw[BitVec.xor_assoc]
 ·rw[BitVec.xor_assoc,BitVec.xor_assoc,BitVec.xor_comm poly]
 ·rw[BitVec.xor_assoc,←BitVec.xor_assoc poly,BitVec.xor_comm poly,BitVec.xor_assoc,BitVec.xor_self,BitVec.xor_zero]
theorem shn_xor (n:Nat):∀a b:BitVec 32,shn n (a ^^^ b)=shn n a ^^^ shn n b:=by
 induction n with
 |zero=>intro a b;rfl
 |succ n ih=>intro a b;simp only[shn];rw[sh_xor,ih]
theorem shn_clear (n:Nat):∀c:BitVec 32,(∀i,i<n→c.getLsbD i=false)→shn n c=c>>>n:=by
 induction n with
 |zero=>intro c _;simp[shn]
 |succ n ih=>
  intro c h
  have h0:sh c=c>>>1:=by unfold sh;rw[h 0 (by omega)];simp
  show shn n (sh c)=_
  rw[h0,ih _ (fun i hi=>by rw[BitVec.getLsbD_ushiftRight];exact h _ (by omega))]
  rw[←BitVec.shiftRight_add,Nat.add_comm]
def step (c:BitVec 32) (x:BitVec 8):BitVec 32:=shn 8 (c ^^^ x.setWidth 32)
theorem step_table (c:BitVec 32) (x:BitVec 8):step c x=(c>>>8) ^^^ shn 8 ((c.setWidth 8 ^^^ x).setWidth 32):=by
 have hd:c ^^^ x.setWidth 32=((c>>>8)<<<8) ^^^ ((c.setWidth 8 ^^^ x).setWidth 32):=by
  apply BitVec.eq_of_getLsbD_eq
  intro i hi
  simp only[BitVec.getLsbD_xor,BitVec.getLsbD_shiftLeft,BitVec.getLsbD_ushiftRight,BitVec.getLsbD_setWidth]
  by_cases h:i<8
  ·simp[h,hi]
  ·have h2:x.getLsbD i=false:=BitVec.getLsbD_of_ge x i (by omega)
   have h3:8+(i-8)=i:=by omega
   simp[h,hi,h2,h3]
 unfold step
 rw[hd,shn_xor]
 congr 1
 rw[shn_clear]
 ·apply BitVec.eq_of_getLsbD_eq
  intro i hi
  simp only[BitVec.getLsbD_shiftLeft,BitVec.getLsbD_ushiftRight]
  by_cases h:8+i<32
  ·simp[h]
  ·have h2:c.getLsbD (8+i)=false:=BitVec.getLsbD_of_ge c _ (by omega)
   simp[h2]
 ·intro i hi
  simp only[BitVec.getLsbD_shiftLeft]
  simp[hi]
def run (c:BitVec 32) (l:List (BitVec 8)):BitVec 32:=l.foldl step c
def goes (c:BitVec 32) (l:List (BitVec 8)):BitVec 32:= ~~~ run (~~~ c) l
theorem run_append (c:BitVec 32) (a b:List (BitVec 8)):run c (a++b)=run (run c a) b:=List.foldl_append
def sums (l:List (List (BitVec 8))):BitVec 32:=l.foldl goes 0#32
def unity:BitVec 32:=0x80000000#32
def prodFrom (a:BitVec 32):Nat→BitVec 32→BitVec 32→BitVec 32
 |0,_,c=>c
 |k+1,b,c=>prodFrom a k (sh b) (if a.getLsbD k then c ^^^ b else c)
def prod (a b:BitVec 32):BitVec 32:=prodFrom a 32 b 0#32
end Crc
end
section
open Go.RowKit
namespace Crc
theorem v_nonneg (a:BitVec 32):0≤v a:=Int.natCast_nonneg _
theorem v_lt (a:BitVec 32):v a<4294967296:=by have:=a.isLt;unfold v;omega
theorem u_nonneg (a:BitVec 8):0≤u a:=Int.natCast_nonneg _
theorem u_lt (a:BitVec 8):u a<256:=by have:=a.isLt;unfold u;omega
theorem wrap_v (a:BitVec 32):IntKind.u32.wrap (v a)=v a:=by
 rw[IntKind.wrap_u32'];have:=v_nonneg a;have:=v_lt a;omega
theorem ofInt_v (a:BitVec 32):BitVec.ofInt 32 (v a)=a:=by
 unfold v;rw[BitVec.ofInt_natCast,BitVec.ofNat_toNat,BitVec.setWidth_eq]
theorem ofInt_u (a:BitVec 8):BitVec.ofInt 8 (u a)=a:=by
 unfold u;rw[BitVec.ofInt_natCast,BitVec.ofNat_toNat,BitVec.setWidth_eq]
theorem xor_v (a b:BitVec 32):bits .xor .u32 (v a) (v b)=v (a ^^^ b):=by
 show IntKind.u32.wrap ((BitVec.ofInt 32 (v a) ^^^ BitVec.ofInt 32 (v b)).toNat:Int)=_
 rw[ofInt_v,ofInt_v];exact wrap_v _
theorem and_v (a b:BitVec 32):bits .and .u32 (v a) (v b)=v (a&&& b):=by
 show IntKind.u32.wrap ((BitVec.ofInt 32 (v a)&&& BitVec.ofInt 32 (v b)).toNat:Int)=_
 rw[ofInt_v,ofInt_v];exact wrap_v _
theorem xor_u (a b:BitVec 8):bits .xor .u8 (u a) (u b)=u (a ^^^ b):=by
 show IntKind.u8.wrap ((BitVec.ofInt 8 (u a) ^^^ BitVec.ofInt 8 (u b)).toNat:Int)=_
 rw[ofInt_u,ofInt_u,IntKind.wrap_u8']
 have:=u_nonneg (a ^^^ b);have:=u_lt (a ^^^ b)
 show u (a ^^^ b)%256=_
 omega
theorem not_v (a:BitVec 32):bits .xor .u32 4294967295 (v a)=v (~~~ a):=by
 have h:=xor_v ones a
 have e:v ones=4294967295:=by decide
 rw[e] at h
 have o:ones=BitVec.allOnes 32:=by decide
 rw[h,o,BitVec.allOnes_xor]
theorem low_v (a:BitVec 32):bits .and .u32 (v a) 1=if a.getLsbD 0 then 1 else 0:=by
 have h:=and_v a 1#32
 have e:v 1#32=1:=by decide
 rw[e] at h
 rw[h]
 cases hb:a.getLsbD 0
 ·have:a&&& 1#32=0#32:=by
    apply BitVec.eq_of_getLsbD_eq
    intro i hi
    rcases Nat.eq_zero_or_pos i with h0|h0
    ·subst h0;rw[BitVec.getLsbD_and,hb];simp
    ·have:(1#32).getLsbD i=false:=by rw[BitVec.getLsbD_one];simp;omega
     rw[BitVec.getLsbD_and,this];simp
  rw[this];decide
 ·have:a&&& 1#32=1#32:=by
    apply BitVec.eq_of_getLsbD_eq
    intro i hi
    rcases Nat.eq_zero_or_pos i with h0|h0
    ·subst h0;rw[BitVec.getLsbD_and,hb];simp
    ·have:(1#32).getLsbD i=false:=by rw[BitVec.getLsbD_one];simp;omega
     rw[BitVec.getLsbD_and,this];simp
  rw[this];decide
theorem shr_v (a:BitVec 32) (n:Nat):v a/((2 ^ n:Nat):Int)=v (a>>>n):=by
 unfold v
 rw[BitVec.toNat_ushiftRight,Nat.shiftRight_eq_div_pow]
 omega
theorem shr1_v (a:BitVec 32):v a/(2:Int)=v (a>>>1):=by have:=shr_v a 1;simpa using this
theorem shr8_v (a:BitVec 32):v a/(256:Int)=v (a>>>8):=by have:=shr_v a 8;simpa using this
theorem sh_hit (a:BitVec 32) (h:a.getLsbD 0=true):bits .xor .u32 (v a/2) 2197175160=v (sh a):=by
 have e:(2197175160:Int)=v poly:=by decide
 rw[e,shr1_v,xor_v];unfold sh;rw[h];rfl
theorem sh_miss (a:BitVec 32) (h:a.getLsbD 0=false):v a/2=v (sh a):=by
 rw[shr1_v];unfold sh;rw[h];rfl
theorem low8_v (a:BitVec 32):IntKind.u8.wrap (v a)=u (a.setWidth 8):=by
 rw[IntKind.wrap_u8'];unfold u v;rw[BitVec.toNat_setWidth];omega
theorem low8_v' (a:BitVec 32):v a%256=u (a.setWidth 8):=by
 unfold u v;rw[BitVec.toNat_setWidth];omega
theorem v_zero:v 0#32=0:=by decide
theorem ret_u32 {a b:Int} (h:a=b):Ending.returned (.int .u32 a)= .returned (.int .u32 b):=by rw[h]
structure Keep (g:Nat) (w w':World):Prop where
 by_:w.grownBy w' (some g)
theorem Keep.refl (g:Nat) (w:World):Keep g w w:=⟨⟨rfl,rfl,rfl,Nat.le_refl _,fun _ _ _=>rfl⟩⟩
theorem Keep.trans {g:Nat} {a b c:World} (h:Keep g a b) (k:Keep g b c):Keep g a c:=
 ⟨⟨k.1.os.trans h.1.os,k.1.tape.trans h.1.tape,k.1.output.trans h.1.output,Nat.le_trans h.1.size k.1.size,
   fun i hi hn=>(k.1.block i (Nat.lt_of_lt_of_le hi h.1.size) hn).trans (h.1.block i hi hn)⟩⟩
theorem Keep.drew {g:Nat} {a w:World} (h:Keep g a w):Keep g a w.drew:=h.trans ⟨⟨rfl,rfl,rfl,Nat.le_refl _,fun _ _ _=>rfl⟩⟩
theorem Keep.alloc {g:Nat} {a w:World} (h:Keep g a w) (o:Obj):Keep g a (w.alloc o):=
 h.trans ⟨⟨rfl,rfl,rfl,by simp,fun k hk _=>Below.heap_alloc _ _ _ hk⟩⟩
theorem Keep.setCell {g:Nat} {a w:World} (h:Keep g a w) {p:Addr} (hp:p.block=g) (x:Value):Keep g a (w.setCell p x):=
 h.trans ⟨⟨rfl,rfl,rfl,by simp[World.setCell],fun k _ hn=>Below.heap_setCell _ _ _ _ (fun e=>hn (by rw[e,hp]))⟩⟩
theorem Keep.cell {g:Nat} {a w:World} (h:Keep g a w) {p:Addr} {x:Value} (hc:a.cell? p=some x) (hn:p.block≠g):w.cell? p=some x:=
 h.1.cell hc (fun e=>hn (by injection e))
theorem Keep.low {g B:Nat} {a w:World} (h:Keep g a w) (hB:B≤g) (hs:B≤a.heap.size):Below B a w:=
 ⟨h.1.os,h.1.tape,h.1.output,h.1.size,fun k hk=>h.1.block k (by omega) (fun e=>by injection e with e;omega)⟩
def Bytes (w:World) (g:Nat) (A:Option Addr) (n:Nat) (l:List (BitVec 8)):Prop:=
 l.length=n∧n≤140737488351232∧(0<n→∃x,A=some x∧x.block≠g∧∀i b,l[i]? =some b→w.cell? (x.add i)=some (.int .u8 (u b)))
theorem Bytes.keep {w w':World} {g:Nat} {A:Option Addr} {n:Nat} {l:List (BitVec 8)} (h:Bytes w g A n l) (k:Keep g w w'):Bytes w' g A n l:=by
 refine⟨h.1,h.2.1,fun h0=> ?_⟩
 obtain⟨x,e,hx,hc⟩:=h.2.2 h0
 exact⟨x,e,hx,fun i b hb=>k.cell (hc i b hb) (by rw[show(x.add i).block=x.block from by unfold Addr.add;split<;>rfl];exact hx)⟩
theorem add_none (b o k:Nat):(⟨b,o,none⟩:Addr).add k=⟨b,o+k,none⟩:=by
 unfold Addr.add;split<;>simp_all
theorem Bytes.at_ {w:World} {g:Nat} {A:Option Addr} {n:Nat} {l:List (BitVec 8)} (h:Bytes w g A n l) (h0:0<n):
  ∃b o,A=some ⟨b,o,none⟩∧b≠g∧∀i x,l[i]? =some x→w.cell? ⟨b,o+i,none⟩=some (.int .u8 (u x)):=by
 obtain⟨⟨b,o,s⟩,e,hx,hc⟩:=h.2.2 h0
 have hl:=h.1
 have h1:=World.cell?_spot (hc 0 _ (List.getElem?_eq_getElem (by omega)))
 have hs:s=none:=by simpa [Addr.add] using h1
 subst hs
 exact⟨b,o,e,hx,fun i x hi=>by rw[←add_none];exact hc i x hi⟩
structure Tab (w:World) (g:Nat) (n:Int) (made:Bool):Prop where
 blk:∃cs,w.heap[g]? =some (.cells cs 195 (0,0))∧cs.size=260∧cs[0]? =some (.int .u32 (if made then 1 else 0))∧cs[1]? =some (.int .i32 0)∧cs[3]? =some (.int .i64 n)∧
  (made=true→∀i:Nat,i<256→cs[4+i]? =some (.int .u32 (v (shn 8 (BitVec.ofNat 32 i)))))
end Crc
end
section
open Go.RowKit
namespace Crc
theorem shift_any (c:BitVec 32) (w:World):
  Calls Tryz.prog 203 #[.int .u32 (v c)] w fun e w'=>e= .returned (.int .u32 (v (sh c)))∧w=w':=by
 cases hb:c.getLsbD 0
 ·have h1:(bits .and .u32 (v c) 1==1)=false:=by rw[low_v,hb];rfl
  have H:=Lib.hid (sh_miss c hb)
  clear hb
  go_enter Tryz.func203,Tryz.ntmps203
  go_wp2
  go_ret
  exact⟨ret_u32 H.out,rfl⟩
 ·have h1:(bits .and .u32 (v c) 1==1)=true:=by rw[low_v,hb];rfl
  have H:=Lib.hid (sh_hit c hb)
  clear hb
  go_enter Tryz.func203,Tryz.ntmps203
  go_wp2
  go_ret
  exact⟨ret_u32 H.out,rfl⟩
end Crc
end
section
open Go.RowKit
namespace Crc
def Blk (w:World) (g:Nat) (cs:Array Value):Prop:=w.heap[g]? =some (.cells cs 195 (0,0))
section
variable {w w':World} {g:Nat} {cs:Array Value}
theorem Blk.lt (h:Blk w g cs):g<w.heap.size:=by
 rcases Nat.lt_or_ge g w.heap.size with hlt|hge
 ·exact hlt
 ·unfold Blk at h;rw[Array.getElem?_eq_none hge] at h;cases h
theorem Blk.cell (h:Blk w g cs) (i:Nat):w.cell? ⟨g,i,none⟩=cs[i]? :=cell_of_row w g i cs _ (0,0) h
theorem Blk.frozen (h:Blk w g cs) (i:Nat):w.frozen? ⟨g,i,none⟩=false:=by
 unfold Blk at h
 simp[World.frozen?,h]
theorem Blk.drew (h:Blk w g cs):Blk w.drew g cs:=h
theorem Blk.set_ (h:Blk w g cs) (i:Nat) (u:Value):Blk (w.setCell ⟨g,i,none⟩ u) g (cs.setIfInBounds i u):=by
 unfold Blk at h ⊢
 simp[World.setCell,Array.getElem?_modify,h]
end
def Filled (g:Nat) (cs:Array Value) (w w':World):Prop:=
 ∃cs',Blk w' g cs'∧cs'.size=260∧(∀j,j<4→cs'[j]? =cs[j]?)∧(∀i:Nat,i<256→cs'[4+i]? =some (.int .u32 (v (shn 8 (BitVec.ofNat 32 i)))))∧Keep g w w'
def Filling (g:Nat) (cs:Array Value) (k:Nat) (w w':World):Prop:=
 ∃cs',Blk w' g cs'∧cs'.size=260∧(∀j,j<4→cs'[j]? =cs[j]?)∧(∀i:Nat,i<k→cs'[4+i]? =some (.int .u32 (v (shn 8 (BitVec.ofNat 32 i)))))∧Keep g w w'
theorem Filling.next {g:Nat} {cs:Array Value} {k:Nat} {w w':World} (h:Filling g cs k w w') (hk:k<256):
  Filling g cs (k+1) w (w'.setCell ⟨g,4+k,none⟩ (.int .u32 (v (shn 8 (BitVec.ofNat 32 k))))):=by
 obtain⟨cs',hb,hs,h0,h1,hkeep⟩:=h
 refine⟨_,hb.set_ (4+k) _,by simp[hs],fun j hj=> ?_,fun i hi=> ?_,hkeep.setCell rfl _⟩
 ·rw[Array.getElem?_setIfInBounds,if_neg (by omega)];exact h0 j hj
 ·rw[Array.getElem?_setIfInBounds]
  by_cases e:i=k
  ·subst e;rw[if_pos rfl,if_pos (by omega)]
  ·rw[if_neg (by omega)];exact h1 i (by omega)
theorem fill_any (g:Nat) (cs:Array Value) (w:World) (hb:Blk w g cs) (hs:cs.size=260):
  Calls Tryz.prog 187 #[.pointer (some ⟨g,0,none⟩)] w fun e w'=>e= .returned (.tuple #[])∧Filled g cs w w':=by
 go_enter Tryz.func187,Tryz.ntmps187
 go_wp2
 go_loopw [4] (fun i wr=>∃k:Nat,k≤256∧i= .int .i64 k∧Filling g cs k w wr) (fun i _=>256-(intOf i).toNat)
 case atStart=>exact⟨0,by omega,rfl,cs,hb,hs,fun _ _=>rfl,fun i hi=>absurd hi (by omega),Keep.refl _ _⟩
 case round=>
  obtain⟨k,hk,rfl,hF⟩:=hrel
  by_cases hlt:k<256
  ·have E:Hid ((k:Int)=v (BitVec.ofNat 32 k)):=by
     show _=_
     unfold v;rw[BitVec.toNat_ofNat];omega
   obtain⟨cs',hb',hs',-,-,-⟩:=id hF
   have hc:=hb'.cell (4+k)
   rw[Array.getElem?_eq_getElem (by omega)] at hc
   have hz:=hb'.frozen (4+k)
   have HF:=Lib.hid hF
   clear hF hb'
   generalize cs'[4+k]'(by omega)=old at hc
   have hd:decide ((k:Int)<256)=true:=by simp;omega
   go_wp2
   go_loop [3,9] (fun x i=>∃(j:Nat) (y:BitVec 32),j≤8∧i= .int .i64 j∧x= .int .u32 (v y)∧shn (8-j) y=shn 8 (BitVec.ofNat 32 k)) (fun _ i=>8-(intOf i).toNat)
   case atStart=>exact⟨0,_,by omega,rfl,by rw[←E.out],rfl⟩
   case round=>
    obtain⟨j,y,hj,rfl,rfl,hy⟩:=hrel
    have HY:=Lib.hid hy
    clear hy
    by_cases hjl:j<8
    ·have S:Hid (shn (8-(j+1)) (sh y)=shn (8-j) y):=by
       show _=_
       rw[show 8-j=(8-(j+1))+1 by omega];rfl
     go_wp2_with (go_at_call 203;refine(shift_any _ _).mono ?_;rintro e w' ⟨rfl,rfl⟩)
     go_round
     case rel=>exact⟨j+1,sh y,by omega,by go_num,rfl,by rw[S.out];exact HY.out⟩
     case measure=>simp[intOf];omega
    ·have:j=8:=by omega
     subst this
     go_wp2
     go_roundw
     case rel=>exact⟨k+1,by omega,by go_num,by rw[show y=shn 8 (BitVec.ofNat 32 k) from HY.out];exact HF.out.next hlt⟩
     case measure=>simp[intOf];omega
  ·have:k=256:=by omega
   subst this
   have HF:=Lib.hid hF
   clear hF
   go_wp2
   go_end0
   exact⟨rfl,HF.out⟩
theorem disable (w:World):(callFunc 216 #[]).run Tryz.prog w= .ok (.value (.tuple #[])) w:=run_call_mark0 Tryz.func216 (by kernel_rfl) (by kernel_rfl) (by kernel_rfl) .disable (by kernel_rfl) w
theorem enable (w:World):(callFunc 218 #[]).run Tryz.prog w= .ok (.value (.tuple #[])) w:=run_call_mark0 Tryz.func218 (by kernel_rfl) (by kernel_rfl) (by kernel_rfl) .enable (by kernel_rfl) w
theorem acquire (a:Addr) (w:World):(callFunc 219 #[.pointer (some a)]).run Tryz.prog w= .ok (.value (.tuple #[])) w:=run_call_marked Tryz.func219 (by kernel_rfl) (by kernel_rfl) (by kernel_rfl) .acquire (by kernel_rfl) a w
theorem releaseMerge (a:Addr) (w:World):(callFunc 221 #[.pointer (some a)]).run Tryz.prog w= .ok (.value (.tuple #[])) w:=run_call_marked Tryz.func221 (by kernel_rfl) (by kernel_rfl) (by kernel_rfl) .releaseMerge (by kernel_rfl) a w
theorem store_deferred (a:Addr) (x:Value) (u:FrameMode) (w:World) (hc:w.cell? a=some x) (hz:w.frozen? a=false):
  CallsD Tryz.prog 210 #[.pointer (some a),.bool true] u w fun e u' w'=>u'=u∧(e= .returned (.tuple #[])∧w'=w.drew.setCell a (.int .u32 1)):=by
 have hc':w.drew.cell? a=some x:=by go_simp
 have hz':w.drew.frozen? a=false:=by go_simp
 have hst:=run_call_store (P:=Tryz.prog) Tryz.func214 (by kernel_rfl) (by kernel_rfl) (by kernel_rfl) (by kernel_rfl) (k:= .u32) (y:=1) hc' hz'
 go_enter_d Tryz.func210,Tryz.ntmps210
 go_wp2
 go_region_calls
 all_goals(go_end0;exact⟨rfl,rfl⟩)
theorem unlock_deferred (a:Addr) (u:FrameMode) (w:World) (hc:w.cell? a=some (.int .i32 1)) (hz:w.frozen? a=false):
  CallsD Tryz.prog 209 #[.pointer (some a)] u w fun e u' w'=>u'=u∧(e= .returned (.tuple #[])∧w'=w.setCell a (.int .i32 0)):=by
 have hd:=disable
 have he:=enable
 have hr:=releaseMerge
 have hadd:=run_call_add (P:=Tryz.prog) Tryz.func222 (by kernel_rfl) (by kernel_rfl) (by kernel_rfl) .i32 (by kernel_rfl) (y:= -1) (s:=0) hc hz (by simp[go_sem];rfl)
 have hcv:=run_convert_to_unsafe (P:=Tryz.prog) (src:=293) (dst:=297) Tryz.underlying293 Tryz.underlying297 (by kernel_rfl) hc
 go_enter_d Tryz.func209,Tryz.ntmps209
 go_wp2
 go_end0
 go_wp2
 go_end0
 exact⟨rfl,rfl⟩
theorem lock_free (a:Addr) (w:World) (hc:w.cell? a=some (.int .i32 0)) (hz:w.frozen? a=false):
  Calls Tryz.prog 208 #[.pointer (some a)] w fun e w'=>e= .returned (.tuple #[])∧w'=w.setCell a (.int .i32 1):=by
 have hd:=disable
 have he:=enable
 have ha:=acquire
 have hcas:=run_call_cas_hit (P:=Tryz.prog) Tryz.func217 (by kernel_rfl) (by kernel_rfl) (by kernel_rfl) .i32 (by kernel_rfl) (y:=1) hc hz
 have hc':(w.setCell a (.int .i32 1)).cell? a=some (.int .i32 1):=World.cell?_setCell_same w a _ hc
 have hcv:=run_convert_to_unsafe (P:=Tryz.prog) (src:=293) (dst:=297) Tryz.underlying293 Tryz.underlying297 (by kernel_rfl) hc'
 go_enter Tryz.func208,Tryz.ntmps208
 go_wp2
 first|go_end0|(simp only[Exit.inBlock,Exit.then];refine bodyPost_ret (results_none rfl _ _ _) rfl ?_)|refine bodyPost_ret (results_none rfl _ _ _) rfl ?_
 go_wp2
 go_end0
 exact⟨rfl,rfl⟩
def Made (g:Nat) (n:Int) (w w':World):Prop:=Tab w' g n true∧Keep g w w'
theorem slow_any (g:Nat) (n:Int) (w:World) (ht:Tab w g n false):
  Calls Tryz.prog 202 #[.pointer (some ⟨g,0,none⟩),.func (.func 187) #[.pointer (some ⟨g,0,none⟩)] #[]] w fun e w'=>e= .returned (.tuple #[])∧Made g n w w':=by
 obtain⟨cs,hb,hs,c0,c1,c3,-⟩:=ht
 have hb:Blk w g cs:=hb
 have k0:=(hb.cell 0).trans c0
 have k1:=(hb.cell 1).trans c1
 simp only[Bool.false_eq_true,if_false] at k0 c0
 have f0:=hb.frozen 0
 have f1:=hb.frozen 1
 have hb1:=hb.set_ 1 (.int .i32 1)
 have hF:=fill_any g _ _ hb1 (by simpa using hs)
 have hl:=run_call_load (P:=Tryz.prog) Tryz.func207 (by kernel_rfl) (by kernel_rfl) (by kernel_rfl) .u32 (by kernel_rfl) (w:=w.setCell ⟨g,1,none⟩ (.int .i32 1)) (a:=⟨g,0,none⟩) (x:=0) ((World.cell?_setCell_other _ ⟨g,1,none⟩ ⟨g,0,none⟩ _ (by simp)).trans k0)
 have hnot:∀(x:Bool) (w:World),(Op.unary .not (.bool x)).run Tryz.prog w= .ok (.bool (!x)) w:=fun _ _=>rfl
 have C0:=Lib.hid c0
 have C1:=Lib.hid c1
 have C3:=Lib.hid c3
 have HB:=Lib.hid hb
 have HS:=Lib.hid hs
 clear hb hb1 hs c0 c1 c3
 go_enter_defers Tryz.func202,Tryz.ntmps202
 go_wp2_with (first|(go_at_call 208;refine(lock_free ⟨g,1,none⟩ _ (by go_simp) (by go_simp)).mono ?_;rintro e w' ⟨rfl,rfl⟩)|(go_at_call 187;refine hF.mono ?_;rintro e w2 ⟨rfl,hF2⟩;have HF2:=Lib.hid hF2;clear hF2 hF)|(go_at_call 201;go_in))
 obtain⟨cs2,b2,s2,e2,t2,q2⟩:=HF2.out
 have d0:cs2[0]? =some (.int .u32 0):=by rw[e2 0 (by omega),Array.getElem?_setIfInBounds,if_neg (by omega)];exact C0.out
 have d1:cs2[1]? =some (.int .i32 1):=by have:=HS.out;rw[e2 1 (by omega),Array.getElem?_setIfInBounds,if_pos rfl,if_pos (by omega)]
 have d3:cs2[3]? =some (.int .i64 n):=by rw[e2 3 (by omega),Array.getElem?_setIfInBounds,if_neg (by omega)];exact C3.out
 refine leaves_cons (f:=210) (args:= #[.pointer (some ⟨g,0,none⟩),.bool true]) (by simp) (by simp[go_sem]) ?_
 refine(store_deferred ⟨g,0,none⟩ (.int .u32 0) .returning _ ((b2.cell 0).trans d0) (b2.frozen 0)).mono ?_
 rintro e u' w'' ⟨rfl,rfl,rfl⟩
 have b3:=(b2.drew).set_ 0 (.int .u32 1)
 refine leaves_cons (f:=209) (args:= #[.pointer (some ⟨g,1,none⟩)]) (by simp[settle]) (by simp[go_sem]) ?_
 refine(unlock_deferred ⟨g,1,none⟩ _ _ ((b3.cell 1).trans (by rw[Array.getElem?_setIfInBounds,if_neg (by omega)];exact d1)) (b3.frozen 1)).mono ?_
 rintro e u' w'' ⟨rfl,rfl,rfl⟩
 have b4:=b3.set_ 1 (.int .i32 0)
 have T:Made g n w ((w2.drew.setCell ⟨g,0,none⟩ (.int .u32 1)).setCell ⟨g,1,none⟩ (.int .i32 0)):=by
  refine⟨⟨_,b4,by simp[s2],?_,?_,?_,fun _ i hi=> ?_⟩,(((Keep.refl g w).setCell (p:=⟨g,1,none⟩) rfl _).trans q2).drew.setCell rfl _|>.setCell rfl _⟩
  ·simp[s2]
  ·simp[s2]
  ·rw[Array.getElem?_setIfInBounds,if_neg (by omega),Array.getElem?_setIfInBounds,if_neg (by omega)];exact d3
  ·rw[Array.getElem?_setIfInBounds,if_neg (by omega),Array.getElem?_setIfInBounds,if_neg (by omega)];exact t2 i hi
 simp[Leaves,settle,results,Tryz.results202]
 exact T
theorem do_first (g:Nat) (n:Int) (w:World) (ht:Tab w g n false):
  Calls Tryz.prog 186 #[.pointer (some ⟨g,0,none⟩),.func (.func 187) #[.pointer (some ⟨g,0,none⟩)] #[]] w fun e w'=>e= .returned (.tuple #[])∧Made g n w w':=by
 have hS:=slow_any g n w ht
 obtain⟨cs,hb,hs,c0,c1,c3,-⟩:=ht
 have hb:Blk w g cs:=hb
 have k0:=(hb.cell 0).trans c0
 simp only[Bool.false_eq_true,if_false] at k0
 have hl:=run_call_load (P:=Tryz.prog) Tryz.func207 (by kernel_rfl) (by kernel_rfl) (by kernel_rfl) .u32 (by kernel_rfl) k0
 have hnot:∀(x:Bool) (w:World),(Op.unary .not (.bool x)).run Tryz.prog w= .ok (.bool (!x)) w:=fun _ _=>rfl
 clear hb hs c0 c1 c3
 go_enter Tryz.func186,Tryz.ntmps186
 go_wp2_with (first|(go_at_call 202;refine hS.mono ?_;rintro e w' ⟨rfl,hM⟩;have HM:=Lib.hid hM;clear hM hS)|(go_at_call 201;go_in))
 go_end0
 exact⟨rfl,HM.out⟩
theorem do_done (a:Addr) (fv:Value) (w:World) (h0:w.cell? a=some (.int .u32 1)):
  Calls Tryz.prog 186 #[.pointer (some a),fv] w fun e w'=>e= .returned (.tuple #[])∧w=w':=by
 have hl:=run_call_load (P:=Tryz.prog) Tryz.func207 (by kernel_rfl) (by kernel_rfl) (by kernel_rfl) .u32 (by kernel_rfl) h0
 have hnot:∀(x:Bool) (w:World),(Op.unary .not (.bool x)).run Tryz.prog w= .ok (.bool (!x)) w:=fun _ _=>rfl
 go_enter Tryz.func186,Tryz.ntmps186
 go_wp2
 go_end0
 exact⟨rfl,rfl⟩
end Crc
end
section
open Go.RowKit
namespace Crc
theorem Tab.bump {w:World} {g:Nat} {n:Int} {made:Bool} (h:Tab w g n made) (m:Int):Tab (w.setCell ⟨g,3,none⟩ (.int .i64 m)) g m made:=by
 obtain⟨cs,hb,hs,c0,c1,c3,ht⟩:=h
 have hb:Blk w g cs:=hb
 refine⟨_,hb.set_ 3 (.int .i64 m),by simp[hs],?_,?_,?_,fun hm i hi=> ?_⟩
 ·rw[Array.getElem?_setIfInBounds,if_neg (by omega)];exact c0
 ·rw[Array.getElem?_setIfInBounds,if_neg (by omega)];exact c1
 ·rw[Array.getElem?_setIfInBounds,if_pos rfl,if_pos (by omega)]
 ·rw[Array.getElem?_setIfInBounds,if_neg (by omega)];exact ht hm i hi
theorem Tab.used {w:World} {g:Nat} {n:Int} {made:Bool} (h:Tab w g n made):w.cell? ⟨g,3,none⟩=some (.int .i64 n)∧w.frozen? ⟨g,3,none⟩=false:=by
 obtain⟨cs,hb,hs,c0,c1,c3,ht⟩:=h
 have hb:Blk w g cs:=hb
 exact⟨(hb.cell 3).trans c3,hb.frozen 3⟩
theorem Tab.done {w:World} {g:Nat} {n:Int} (h:Tab w g n true):w.cell? ⟨g,0,none⟩=some (.int .u32 1):=by
 obtain⟨cs,hb,hs,c0,c1,c3,ht⟩:=h
 have hb:Blk w g cs:=hb
 exact(hb.cell 0).trans c0
theorem Tab.word {w:World} {g:Nat} {n:Int} (h:Tab w g n true) (y:BitVec 8):w.cell? ⟨g,4+(u y).toNat,none⟩=some (.int .u32 (v (shn 8 (y.setWidth 32)))):=by
 obtain⟨cs,hb,hs,c0,c1,c3,ht⟩:=h
 have hb:Blk w g cs:=hb
 have hy:=y.isLt
 have e:(u y).toNat=y.toNat:=by unfold u;omega
 rw[e,hb.cell,ht rfl y.toNat (by omega)]
 have e2:BitVec.ofNat 32 y.toNat=y.setWidth 32:=by
  apply BitVec.eq_of_toNat_eq
  rw[BitVec.toNat_ofNat,BitVec.toNat_setWidth]
 rw[e2]
theorem asked_any (g:Nat) (n:Int) (made:Bool) (w:World) (ht:Tab w g n made) (h0:0≤n) (h1:n≤4611686018427387904):
  Calls Tryz.prog 156 #[.pointer (some ⟨g,0,none⟩)] w fun e w'=>e= .returned (.pointer (some ⟨g,0,none⟩))∧Made g (n+1) w w':=by
 have hmf:∀(fn:Fn) (first cap:Array Value) (w:World),(Instr.makeFunc fn first cap).run Tryz.prog w= .ok (.func fn first cap) w:=fun _ _ _ _=>rfl
 obtain⟨hc,hz⟩:=ht.used
 have hsum:(Op.intArith .add .i64 n 1).run Tryz.prog w= .ok (.int .i64 (n+1)) w:=by
  have e:=IntWalk.i64_in (n+1) (by omega)
  simp[go_sem,e]
 have hadd:=run_call_add (P:=Tryz.prog) Tryz.func200 (by kernel_rfl) (by kernel_rfl) (by kernel_rfl) .i64 (by kernel_rfl) (y:=1) (s:=n+1) hc hz hsum
 have hT:=ht.bump (n+1)
 clear hsum hc hz
 cases made
 ·have hD:=do_first g (n+1) _ hT
  clear hT ht
  go_enter Tryz.func156,Tryz.ntmps156
  go_wp2_with (first|(go_at_call 186;refine hD.mono ?_;rintro e w' ⟨rfl,hM⟩;have HM:=Lib.hid hM;clear hM hD)|(go_at_call 185;go_in))
  go_ret
  exact⟨rfl,HM.out.1,((Keep.refl g w).setCell (p:=⟨g,3,none⟩) rfl _).trans HM.out.2⟩
 ·have hd:=hT.done
  have HT:=Lib.hid hT
  clear hT ht
  go_enter Tryz.func156,Tryz.ntmps156
  go_wp2_with (first|(go_at_call 186;refine(do_done _ _ _ hd).mono ?_;rintro e w' ⟨rfl,rfl⟩)|(go_at_call 185;go_in))
  go_ret
  exact⟨rfl,HT.out,(Keep.refl g w).setCell (p:=⟨g,3,none⟩) rfl _⟩
def tabZero:Array Value:= #[.int .u32 0,.int .i32 0,.int .u32 0,.int .i64 0]++Array.replicate 256 (.int .u32 0)
theorem zeroTab (w:World):(zeroValue 195).run Tryz.prog w= .ok (.agg tabZero) w:=by kernel_rfl
theorem new_any (w:World):
  Calls Tryz.prog 73 #[] w fun e w'=>e= .returned (.pointer (some ⟨w.heap.size,0,none⟩))∧Tab w' w.heap.size 0 false∧Keep w.heap.size w w':=by
 have hzt:=zeroTab
 have T:Hid (Tab (w.alloc (.cells tabZero 195)) w.heap.size 0 false):=
  ⟨tabZero,heap_alloc_new w _,rfl,rfl,rfl,rfl,fun h=>by cases h⟩
 go_enter Tryz.func73,Tryz.ntmps73
 go_wp2
 go_ret
 exact⟨rfl,T.out,(Keep.refl _ _).alloc _⟩
def Pieces (w:World) (g:Nat) (A:Option Addr) (n:Nat) (ls:List (List (BitVec 8))):Prop:=
 ls.length=n∧n≤140737488351232∧(0<n→∃b o,A=some ⟨b,o,none⟩∧b≠g∧∀i l,ls[i]? =some l→∃a m c,w.cell? ⟨b,o+i,none⟩=some (.slice a m c)∧Bytes w g a m l)
theorem Pieces.keep {w w':World} {g:Nat} {A:Option Addr} {n:Nat} {ls:List (List (BitVec 8))} (h:Pieces w g A n ls) (k:Keep g w w'):Pieces w' g A n ls:=by
 refine⟨h.1,h.2.1,fun h0=> ?_⟩
 obtain⟨b,o,e,hx,hc⟩:=h.2.2 h0
 refine⟨b,o,e,hx,fun i l hl=> ?_⟩
 obtain⟨a,m,c,h1,h2⟩:=hc i l hl
 exact⟨a,m,c,k.cell h1 hx,h2.keep k⟩
theorem follow_any (g:Nat) (q:Int) (c:BitVec 32) (A:Option Addr) (n cap:Nat) (l:List (BitVec 8)) (w:World) (ht:Tab w g q true) (h:Bytes w g A n l):
  Calls Tryz.prog 157 #[.pointer (some ⟨g,0,none⟩),.int .u32 (v c),.slice A n cap] w fun e w'=>e= .returned (.int .u32 (v (goes c l)))∧w=w':=by
 have hc:=h.at_
 have hT:=ht.word
 obtain⟨hl,hm,-⟩:=h
 have N1:=Lib.hid (not_v c)
 have hsg:IntKind.u32.signed=false:=rfl
 have hmx:IntKind.u32.max=4294967295:=by decide
 have G:Hid (goes c l= ~~~ run (~~~ c) (l.take n)):=by show _=_;rw[List.take_of_length_le (by omega)];rfl
 have HT:=Lib.hid hT
 clear hT ht
 go_enter Tryz.func157,Tryz.ntmps157
 go_wp2
 go_loop [1,13] (fun x i=>∃k:Nat,k≤n∧i= .int .i64 k∧x= .int .u32 (v (run (~~~ c) (l.take k)))) (fun _ i=>n-(intOf i).toNat)
 case atStart=>exact⟨0,by omega,rfl,by rw[N1.out];rfl⟩
 case round=>
  obtain⟨k,hk,rfl,rfl⟩:=hrel
  by_cases hlt:k<n
  ·obtain⟨xb,xo,rfl,hxg,hcell⟩:=hc (by omega)
   have hk':k<l.length:=by omega
   have h2:=hcell k _ (List.getElem?_eq_getElem hk')
   have R:Hid (run (~~~ c) (l.take (k+1))=step (run (~~~ c) (l.take k)) l[k]):=by
    show _=_
    rw[List.take_succ_eq_append_getElem hk',run_append];rfl
   have HL:=Lib.hid hl
   clear hcell hl
   generalize run (~~~ c) (l.take k)=r at*
   generalize hb:l[k]=b at*
   clear hb
   have h3:=HT.out (r.setWidth 8 ^^^ b)
   have hu0:=u_nonneg (r.setWidth 8 ^^^ b)
   have hu1:=u_lt (r.setWidth 8 ^^^ b)
   have X:Hid (bits .xor .u32 (v r/256) (v (shn 8 ((r.setWidth 8 ^^^ b).setWidth 32)))=v (step r b)):=by
    show _=_;rw[shr8_v,xor_v,step_table]
   have x1:=low8_v' r
   have x2:=xor_u (r.setWidth 8) b
   generalize r.setWidth 8 ^^^ b=y at*
   generalize r.setWidth 8=r8 at*
   generalize shn 8 (y.setWidth 32)=z at*
   go_wp2
   go_round
   case rel=>exact⟨k+1,by omega,by go_num,by rw[R.out,X.out]⟩
   case measure=>simp[intOf];omega
  ·have hkn:k=n:=by omega
   have HK:=Lib.hid hkn
   clear hkn
   have N2:=Lib.hid (not_v (run (~~~ c) (l.take k)))
   go_wp2
   go_ret
   exact⟨ret_u32 (by rw[N2.out,G.out,HK.out]),rfl⟩
theorem sum_any (g:Nat) (q:Int) (made:Bool) (A:Option Addr) (n cap:Nat) (ls:List (List (BitVec 8))) (w:World) (ht:Tab w g q made) (h0:0≤q) (h1:q≤4611686018427387904) (h:Pieces w g A n ls):
  Calls Tryz.prog 108 #[.pointer (some ⟨g,0,none⟩),.slice A n cap] w fun e w'=>e= .returned (.int .u32 (v (sums ls)))∧Made g (q+1) w w':=by
 have hA:=asked_any g q made w ht h0 h1
 have HP:=Lib.hid h
 have hm:=h.2.1
 clear h ht h0 h1
 have V0:=Lib.hid v_zero
 go_enter Tryz.func108,Tryz.ntmps108
 go_wp2_with (go_at_call 156;refine hA.mono ?_;rintro e w1 ⟨rfl,hM⟩;have HM:=Lib.hid hM;clear hM hA)
 have hP:=HP.out.keep HM.out.2
 have hl:=hP.1
 have hc:=hP.2.2
 have HT:=Lib.hid HM.out.1
 clear hP
 go_loop [5,12] (fun x i=>∃k:Nat,k≤n∧i= .int .i64 k∧x= .int .u32 (v (sums (ls.take k)))) (fun _ i=>n-(intOf i).toNat)
 case atStart=>exact⟨0,by omega,rfl,by rw[←V0.out];rfl⟩
 case round=>
  obtain⟨k,hk,rfl,rfl⟩:=hrel
  by_cases hlt:k<n
  ·obtain⟨xb,xo,rfl,hxg,hcell⟩:=hc (by omega)
   have hk':k<ls.length:=by omega
   obtain⟨a,m,c,h2,hB⟩:=hcell k _ (List.getElem?_eq_getElem hk')
   have R:Hid (sums (ls.take (k+1))=goes (sums (ls.take k)) ls[k]):=by
    show _=_
    rw[List.take_succ_eq_append_getElem hk'];unfold sums;rw[List.foldl_append];rfl
   have HB:=Lib.hid hB
   have HL:=Lib.hid hl
   clear hcell hl hB
   generalize ls[k]=l at*
   go_wp2_with (go_at_call 157;refine(follow_any _ _ _ _ _ _ _ _ HT.out HB.out).mono ?_;rintro e w' ⟨rfl,rfl⟩)
   go_round
   case rel=>exact⟨k+1,by omega,by go_num,by rw[R.out]⟩
   case measure=>simp[intOf];omega
  ·have hkn:ls.take k=ls:=List.take_of_length_le (by omega)
   have HK:=Lib.hid hkn
   clear hkn
   go_wp2
   go_ret
   exact⟨ret_u32 (by rw[HK.out]),HM.out⟩
def bulk (ls:List (List (BitVec 8))):Int:=ls.foldl (fun z l=>wrap64 (z+((l.length:Int)+1))) 0
end Crc
end
section
namespace Wire
abbrev B8:=BitVec 8
def enc (n:Nat):List B8:=if n<128 then [BitVec.ofNat 8 n] else BitVec.ofNat 8 (n%128+128)::enc (n/128)
termination_by n
decreasing_by omega
def dec:List B8→Nat
 | []=>0
 |b::r=>b.toNat%128+128*dec r
def scan:Nat→List B8→Nat × Nat
 |_,[]=>(0,20)
 |i,b::r=>if(i=9∧1<b.toNat)∨(0<i∧b.toNat=0) then(0,21) else if b.toNat<128 then(i+1,0) else scan (i+1) r
theorem enc_lt {n:Nat} (h:n<128):enc n= [BitVec.ofNat 8 n]:=by rw[enc,if_pos h]
theorem enc_ge {n:Nat} (h:128≤n):enc n=BitVec.ofNat 8 (n%128+128)::enc (n/128):=by rw[enc,if_neg (by omega)]
theorem enc_pos (n:Nat):0<(enc n).length:=by
 by_cases h:n<128
 ·rw[enc_lt h];simp
 ·rw[enc_ge (by omega)];simp
theorem dec_enc (n:Nat):dec (enc n)=n:=by
 induction n using Nat.strongRecOn with
 |_ n ih=>
  by_cases h:n<128
  ·rw[enc_lt h];simp[dec];omega
  ·rw[enc_ge (by omega)];simp only[dec];rw[ih (n/128) (by omega)];simp;omega
theorem scan_enc (rest:List B8):∀(n i:Nat),(i=0∨0<n)→n*128 ^ i<18446744073709551616→scan i (enc n++rest)=(i+(enc n).length,0):=by
 intro n
 induction n using Nat.strongRecOn with
 |_ n ih=>
  intro i hi hb
  have h9:i=9→n<2:=by
   rintro rfl
   have:(128:Nat) ^ 9=9223372036854775808:=by decide
   rw[this] at hb
   omega
  by_cases h:n<128
  ·rw[enc_lt h]
   have e:(BitVec.ofNat 8 n).toNat=n:=by rw[BitVec.toNat_ofNat];omega
   simp only[List.cons_append,List.nil_append,scan,e,List.length_cons,List.length_nil]
   rw[if_neg (by rintro(⟨h1,h2⟩|⟨h1,h2⟩); · have:=h9 h1;omega
                 ·omega),if_pos h]
  ·rw[enc_ge (by omega)]
   have e:(BitVec.ofNat 8 (n%128+128)).toNat=n%128+128:=by rw[BitVec.toNat_ofNat];omega
   simp only[List.cons_append,scan,e,List.length_cons]
   have hnext:n/128*128 ^ (i+1)<18446744073709551616:=by
    refine Nat.lt_of_le_of_lt ?_ hb
    rw[Nat.pow_succ,Nat.mul_comm (128 ^ i) 128,←Nat.mul_assoc]
    exact Nat.mul_le_mul_right _ (Nat.div_mul_le_self n 128)
   rw[if_neg (by rintro(⟨h1,h2⟩|⟨h1,h2⟩); · have:=h9 h1;omega
                 ·omega),if_neg (by omega),ih (n/128) (by omega) (i+1) (.inr (by omega)) hnext]
   congr 1;omega
theorem scan_cut:∀(n i j:Nat),(i=0∨0<n)→n*128 ^ i<18446744073709551616→j<(enc n).length→scan i ((enc n).take j)=(0,20):=by
 intro n
 induction n using Nat.strongRecOn with
 |_ n ih=>
  intro i j hi hb hj
  have h9:i=9→n<2:=by
   rintro rfl
   have:(128:Nat) ^ 9=9223372036854775808:=by decide
   rw[this] at hb
   omega
  by_cases h:n<128
  ·rw[enc_lt h] at hj ⊢
   obtain rfl:j=0:=by simp at hj;omega
   rfl
  ·rw[enc_ge (by omega)] at hj ⊢
   cases j with
   |zero=>rfl
   |succ j=>
    have e:(BitVec.ofNat 8 (n%128+128)).toNat=n%128+128:=by rw[BitVec.toNat_ofNat];omega
    simp only[List.take_succ_cons,scan,e]
    have hnext:n/128*128 ^ (i+1)<18446744073709551616:=by
     refine Nat.lt_of_le_of_lt ?_ hb
     rw[Nat.pow_succ,Nat.mul_comm (128 ^ i) 128,←Nat.mul_assoc]
     exact Nat.mul_le_mul_right _ (Nat.div_mul_le_self n 128)
    rw[if_neg (by rintro(⟨h1,h2⟩|⟨h1,h2⟩); · have:=h9 h1;omega
                  ·omega),if_neg (by omega)]
    exact ih (n/128) (by omega) (i+1) j (.inr (by omega)) hnext (by simpa using hj)
theorem scan_one:∀(l:List B8) (i k:Nat),i≤9→scan i l=(k,0)→∃j,k=i+j+1∧j<l.length∧j+i≤9∧enc (dec (l.take (j+1)))=l.take (j+1)∧(0<i→0<dec (l.take (j+1)))∧dec (l.take (j+1))*128 ^ i<18446744073709551616:=by
 intro l
 induction l with
 |nil=>intro i k hi h;simp[scan] at h
 |cons b r ih=>
  intro i k hi h
  have hbl:=b.isLt
  have h128:(128:Nat) ^ 9=9223372036854775808:=by decide
  rw[scan] at h
  split at h
  ·simp at h
  ·rename_i hn
   split at h
   ·rename_i hlt
    simp only[Prod.mk.injEq,and_true] at h
    refine⟨0,by omega,by simp,by omega,?_,?_,?_⟩
    ·simp only[Nat.zero_add,List.take_succ_cons,List.take_zero,dec]
     rw[enc_lt (by omega)]
     congr 1
     apply BitVec.eq_of_toNat_eq
     rw[BitVec.toNat_ofNat];omega
    ·intro h0
     simp only[Nat.zero_add,List.take_succ_cons,List.take_zero,dec]
     have:¬b.toNat=0:=fun e=>hn (.inr ⟨h0,e⟩)
     omega
    ·simp only[Nat.zero_add,List.take_succ_cons,List.take_zero,dec]
     have e:b.toNat%128+128*0=b.toNat:=by omega
     rw[e]
     by_cases h9:i=9
     ·subst h9
      have:¬1<b.toNat:=fun e=>hn (.inl ⟨rfl,e⟩)
      rw[h128];omega
     ·have hp:(128:Nat) ^ i≤128 ^ 8:=Nat.pow_le_pow_right (by omega) (by omega)
      have h8:(128:Nat) ^ 8=72057594037927936:=by decide
      rw[h8] at hp
      exact Nat.lt_of_le_of_lt (Nat.mul_le_mul (Nat.le_of_lt hlt) hp) (by decide)
   ·rename_i hge
    have hi9:i≠9:=fun e=>by
     have:¬1<b.toNat:=fun e'=>hn (.inl ⟨e,e'⟩)
     omega
    obtain⟨j,hk,hj,h9,hen,hpos,hbd⟩:=ih (i+1) k (by omega) h
    have hp:=hpos (by omega)
    refine⟨j+1,by omega,by simpa using hj,by omega,?_,?_,?_⟩
    ·simp only[List.take_succ_cons,dec]
     rw[enc_ge (by omega)]
     have e1:(b.toNat%128+128*dec (List.take (j+1) r))%128+128=b.toNat:=by omega
     have e2:(b.toNat%128+128*dec (List.take (j+1) r))/128=dec (List.take (j+1) r):=by omega
     rw[e1,e2,hen]
     congr 1
     apply BitVec.eq_of_toNat_eq
     rw[BitVec.toNat_ofNat];omega
    ·intro _
     simp only[List.take_succ_cons,dec]
     omega
    ·simp only[List.take_succ_cons,dec]
     have hle:(dec (List.take (j+1) r)+1)*128 ^ (i+1)≤18446744073709551616:=by
      have hdvd:∃m,18446744073709551616=m*128 ^ (i+1):=by
       have:i+1=1∨i+1=2∨i+1=3∨i+1=4∨i+1=5∨i+1=6∨i+1=7∨i+1=8∨i+1=9:=by omega
       rcases this with h|h|h|h|h|h|h|h|h<;>rw[h]
       ·exact⟨144115188075855872,by decide⟩
       ·exact⟨1125899906842624,by decide⟩
       ·exact⟨8796093022208,by decide⟩
       ·exact⟨68719476736,by decide⟩
       ·exact⟨536870912,by decide⟩
       ·exact⟨4194304,by decide⟩
       ·exact⟨32768,by decide⟩
       ·exact⟨256,by decide⟩
       ·exact⟨2,by decide⟩
      obtain⟨m,hm⟩:=hdvd
      rw[hm] at hbd ⊢
      have hlt:=Nat.lt_of_mul_lt_mul_right hbd
      exact Nat.mul_le_mul_right _ hlt
     rw[Nat.pow_succ] at hle
     have hpp:0<128 ^ i:=Nat.pow_pos (by omega)
     have:(b.toNat%128+128*dec (List.take (j+1) r))<(dec (List.take (j+1) r)+1)*128:=by omega
     calc (b.toNat%128+128*dec (List.take (j+1) r))*128 ^ i<((dec (List.take (j+1) r)+1)*128)*128 ^ i:=Nat.mul_lt_mul_of_pos_right this hpp
      _=(dec (List.take (j+1) r)+1)*(128 ^ i*128):=by rw[Nat.mul_assoc,Nat.mul_comm 128 (128 ^ i)]
      _≤_:=hle
theorem scan_bad:∀(l:List B8) (i k e:Nat),scan i l=(k,e)→e≠0→k=0∧(e=20∨e=21):=by
 intro l
 induction l with
 |nil=>intro i k e h he;simp[scan] at h;omega
 |cons b r ih=>
  intro i k e h he
  rw[scan] at h
  split at h
  ·simp at h;omega
  ·split at h
   ·simp at h;omega
   ·exact ih _ _ _ h he
theorem enc_len_le {n:Nat} (h:n<18446744073709551616):(enc n).length≤10:=by
 have h1:=scan_enc [] n 0 (.inl rfl) (by simpa using h)
 obtain⟨j,hk,hj,h9,-⟩:=scan_one _ 0 _ (by omega) h1
 simp at hj
 omega
def take1 (l:List B8):Nat × Nat × Nat:=let r:=scan 0 l;if r.2=0 then(dec (l.take r.1),r.1,0) else(0,0,r.2)
def int1 (l:List B8):Nat × Nat × Nat:=let r:=take1 l;if r.2.2=0 then(if 9223372036854775807<r.1 then(0,0,21) else r) else(0,0,r.2.2)
theorem take1_enc (n:Nat) (rest:List B8) (h:n<18446744073709551616):take1 (enc n++rest)=(n,(enc n).length,0):=by
 unfold take1
 rw[scan_enc rest n 0 (.inl rfl) (by simpa using h)]
 simp[dec_enc]
theorem int1_enc (n:Nat) (rest:List B8) (h:n<9223372036854775808):int1 (enc n++rest)=(n,(enc n).length,0):=by
 unfold int1
 rw[take1_enc n rest (by omega)]
 simp only[if_pos]
 rw[if_neg (by omega)]
theorem take1_cut {n j:Nat} (h:n<18446744073709551616) (hj:j<(enc n).length):take1 ((enc n).take j)=(0,0,20):=by
 unfold take1
 rw[scan_cut n 0 j (.inl rfl) (by simpa using h) hj]
 simp
theorem int1_cut {n j:Nat} (h:n<9223372036854775808) (hj:j<(enc n).length):int1 ((enc n).take j)=(0,0,20):=by
 unfold int1
 rw[take1_cut (by omega) hj]
 simp
theorem take1_one {l:List B8} {n k:Nat} (h:take1 l=(n,k,0)):1≤k∧k≤l.length∧k≤10∧enc n=l.take k∧n<18446744073709551616∧n=dec (l.take k):=by
 unfold take1 at h
 rcases hs:scan 0 l with⟨k',e⟩
 rw[hs] at h
 by_cases he:e=0
 ·subst he
  simp only[if_pos,Prod.mk.injEq,and_true] at h
  obtain⟨rfl,rfl⟩:=h
  obtain⟨j,hk,hj,h9,hen,-,hbd⟩:=scan_one l 0 k' (by omega) hs
  obtain rfl:k'=j+1:=by omega
  exact⟨by omega,by omega,by omega,hen,by simpa using hbd,rfl⟩
 ·simp[he] at h
theorem take1_bad {l:List B8} {n k e:Nat} (h:take1 l=(n,k,e)) (he:e≠0):n=0∧k=0∧(e=20∨e=21)∧scan 0 l=(0,e):=by
 unfold take1 at h
 rcases hs:scan 0 l with⟨k',e'⟩
 rw[hs] at h
 by_cases h0:e'=0
 ·simp[h0] at h;omega
 ·simp only[if_neg h0,Prod.mk.injEq] at h
  obtain⟨rfl,rfl,rfl⟩:=h
  have:=scan_bad l 0 k' e' hs he
  exact⟨rfl,rfl,this.2,by rw[this.1]⟩
theorem int1_one {l:List B8} {n k:Nat} (h:int1 l=(n,k,0)):take1 l=(n,k,0)∧n<9223372036854775808:=by
 unfold int1 at h
 rcases hs:take1 l with⟨n',k',e'⟩
 rw[hs] at h
 by_cases h0:e'=0
 ·subst h0
  simp only[if_pos] at h
  split at h
  ·simp at h
  ·simp only[Prod.mk.injEq,and_true] at h
   obtain⟨rfl,rfl⟩:=h
   exact⟨rfl,by omega⟩
 ·simp[h0] at h
theorem int1_bad {l:List B8} {n k e:Nat} (h:int1 l=(n,k,e)) (he:e≠0):n=0∧k=0∧(e=20∨e=21):=by
 unfold int1 at h
 rcases hs:take1 l with⟨n',k',e'⟩
 rw[hs] at h
 by_cases h0:e'=0
 ·subst h0
  simp only[if_pos] at h
  split at h
  ·simp at h;omega
  ·simp at h;omega
 ·simp only[if_neg h0,Prod.mk.injEq] at h
  obtain⟨rfl,rfl,rfl⟩:=h
  exact⟨rfl,rfl,(take1_bad hs h0).2.2.1⟩
def encs (l:List Nat):List B8:=l.flatMap enc
def ints:Nat→List B8→List Nat × Nat × Nat
 |0,_=>([],0,0)
 |m+1,b=>let r:=int1 b;if r.2.2=0 then(let s:=ints m (b.drop r.2.1);if s.2.2=0 then(r.1::s.1,r.2.1+s.2.1,0) else([],0,s.2.2)) else([],0,r.2.2)
theorem encs_cons (n:Nat) (l:List Nat):encs (n::l)=enc n++encs l:=by simp[encs]
theorem encs_nil:encs []= []:=rfl
theorem encs_append (l r:List Nat):encs (l++r)=encs l++encs r:=by simp[encs]
theorem encs_len {l:List Nat} (h:∀n∈l,n<18446744073709551616):(encs l).length≤10*l.length:=by
 induction l with
 |nil=>simp[encs]
 |cons n l ih=>
  rw[encs_cons,List.length_append,List.length_cons]
  have:=enc_len_le (h n (by simp))
  have:=ih fun m hm=>h m (by simp[hm])
  omega
theorem ints_encs (rest:List B8):∀(l:List Nat),(∀n∈l,n<9223372036854775808)→ints l.length (encs l++rest)=(l,(encs l).length,0):=by
 intro l
 induction l with
 |nil=>intro _;simp[ints,encs]
 |cons n l ih=>
  intro h
  rw[encs_cons,List.length_cons,ints,List.append_assoc,int1_enc n _ (h n (by simp))]
  simp only[if_pos,List.drop_left]
  rw[ih fun m hm=>h m (by simp[hm])]
  simp
theorem ints_one:∀(m:Nat) (b:List B8) (l:List Nat) (k:Nat),ints m b=(l,k,0)→l.length=m∧k≤b.length∧encs l=b.take k∧∀n∈l,n<9223372036854775808:=by
 intro m
 induction m with
 |zero=>intro b l k h;simp[ints] at h;obtain⟨rfl,rfl⟩:=h;simp[encs]
 |succ m ih=>
  intro b l k h
  rw[ints] at h
  rcases hr:int1 b with⟨n,k1,e⟩
  rw[hr] at h
  by_cases he:e=0
  ·subst he
   simp only[if_pos] at h
   rcases hs:ints m (b.drop k1) with⟨l',k2,e2⟩
   rw[hs] at h
   by_cases he2:e2=0
   ·subst he2
    simp only[if_pos,Prod.mk.injEq,and_true] at h
    obtain⟨rfl,rfl⟩:=h
    obtain⟨h1,hn⟩:=int1_one hr
    obtain⟨t1,t2,t3,t4,t5,-⟩:=take1_one h1
    obtain⟨a1,a2,a3,a4⟩:=ih _ _ _ hs
    rw[List.length_drop] at a2
    refine⟨by simp[a1],by omega,?_,?_⟩
    ·rw[encs_cons,t4,a3]
     rw[←List.take_append_drop k1 (b.take (k1+k2))]
     congr 1
     ·rw[List.take_take];congr 1;omega
     ·rw[List.drop_take];congr 1;omega
    ·intro x hx
     rcases List.mem_cons.1 hx with rfl|hx
     ·exact hn
     ·exact a4 x hx
   ·simp[he2] at h
  ·simp[he] at h
theorem ints_bad:∀(m:Nat) (b:List B8) (l:List Nat) (k e:Nat),ints m b=(l,k,e)→e≠0→l= []∧k=0∧(e=20∨e=21):=by
 intro m
 induction m with
 |zero=>intro b l k e h he;simp[ints] at h;omega
 |succ m ih=>
  intro b l k e h he
  rw[ints] at h
  rcases hr:int1 b with⟨n,k1,e1⟩
  rw[hr] at h
  by_cases he1:e1=0
  ·subst he1
   simp only[if_pos] at h
   rcases hs:ints m (b.drop k1) with⟨l',k2,e2⟩
   rw[hs] at h
   by_cases he2:e2=0
   ·subst he2;simp at h;omega
   ·simp only[if_neg he2,Prod.mk.injEq] at h
    obtain⟨rfl,rfl,rfl⟩:=h
    exact⟨rfl,rfl,(ih _ _ _ _ hs he2).2.2⟩
  ·simp only[if_neg he1,Prod.mk.injEq] at h
   obtain⟨rfl,rfl,rfl⟩:=h
   exact⟨rfl,rfl,(int1_bad hr he1).2.2⟩
def goOn (l:List Nat) (k:Nat) (r:List Nat × Nat × Nat):List Nat × Nat × Nat:=if r.2.2=0 then(l++r.1,k+r.2.1,0) else([],0,r.2.2)
theorem goOn_start (r:List Nat × Nat × Nat) (h:r.2.2≠0→r.1= []∧r.2.1=0):goOn [] 0 r=r:=by
 obtain⟨a,b,c⟩:=r
 unfold goOn
 by_cases h0:c=0
 ·simp[h0]
 ·obtain⟨h1,h2⟩:=h h0
  simp only at h1 h2
  subst h1 h2
  simp[h0]
theorem goOn_ints (m:Nat) (b:List B8):goOn [] 0 (ints m b)=ints m b:=by
 refine goOn_start _ fun h=> ?_
 rcases hr:ints m b with⟨l,k,e⟩
 rw[hr] at h
 obtain⟨h1,h2,-⟩:=ints_bad m b l k e hr h
 exact⟨h1,h2⟩
theorem goOn_step {l:List Nat} {k m:Nat} {b:List B8} {n j:Nat} (h:int1 (b.drop k)=(n,j,0)):goOn l k (ints (m+1) (b.drop k))=goOn (l++ [n]) (k+j) (ints m (b.drop (k+j))):=by
 rw[ints,h]
 simp only[if_pos,List.drop_drop]
 unfold goOn
 rcases hs:ints m (b.drop (k+j)) with⟨l',k2,e2⟩
 by_cases he:e2=0
 ·subst he;simp[Nat.add_assoc]
 ·simp[he]
theorem goOn_stop {l:List Nat} {k m:Nat} {b:List B8} {n j e:Nat} (h:int1 (b.drop k)=(n,j,e)) (he:e≠0):goOn l k (ints (m+1) (b.drop k))=([],0,e):=by
 rw[ints,h]
 simp[goOn,he]
theorem goOn_end (l:List Nat) (k:Nat) (b:List B8):goOn l k (ints 0 b)=(l,k,0):=by simp[ints,goOn]
def encV (x:List B8):List B8:=enc x.length++x
def vec1 (b:List B8):List B8 × Nat × Nat:=
 let r:=int1 b
 if r.2.2=0 then(if 65536<r.1 then([],0,2) else if b.length-r.2.1<r.1 then([],0,20) else((b.drop r.2.1).take r.1,r.2.1+r.1,0)) else([],0,r.2.2)
theorem vec1_enc (x rest:List B8) (h:x.length≤65536):vec1 (encV x++rest)=(x,(encV x).length,0):=by
 unfold vec1 encV
 rw[List.append_assoc,int1_enc _ _ (by omega)]
 simp only[if_pos,List.drop_left,List.take_left,List.length_append]
 rw[if_neg (by omega),if_neg (by omega)]
theorem vec1_cut (x:List B8) (j:Nat) (h:x.length≤65536) (hj:j<(encV x).length):vec1 ((encV x).take j)=([],0,20):=by
 unfold vec1 encV at*
 by_cases hc:j<(enc x.length).length
 ·rw[List.take_append_of_le_length (by omega),int1_cut (by omega) hc]
  simp
 ·have e:(enc x.length++x).take j=enc x.length++x.take (j-(enc x.length).length):=by
    rw[List.take_append,List.take_of_length_le (by omega)]
  rw[e,int1_enc _ _ (by omega)]
  rw[List.length_append] at hj
  simp only[if_pos,List.length_append,List.length_take]
  rw[if_neg (by omega),if_pos (by omega)]
theorem vec1_one {b v:List B8} {k:Nat} (h:vec1 b=(v,k,0)):encV v=b.take k∧k≤b.length∧v.length≤65536∧1≤k:=by
 unfold vec1 at h
 rcases hr:int1 b with⟨n,k1,e⟩
 rw[hr] at h
 by_cases he:e=0
 ·subst he
  simp only[if_pos] at h
  split at h
  ·simp at h
  ·split at h
   ·simp at h
   ·rename_i h1 h2
    simp only[Prod.mk.injEq,and_true] at h
    obtain⟨rfl,rfl⟩:=h
    obtain⟨t1,t2,t3,t4,t5,-⟩:=take1_one (int1_one hr).1
    have hlen:((b.drop k1).take n).length=n:=by rw[List.length_take,List.length_drop];omega
    refine⟨?_,by omega,by omega,by omega⟩
    unfold encV
    rw[hlen,t4,←List.take_append_drop k1 (b.take (k1+n))]
    congr 1
    ·rw[List.take_take];congr 1;omega
    ·rw[List.drop_take];congr 1;omega
 ·simp[he] at h
theorem vec1_bad {b v:List B8} {k e:Nat} (h:vec1 b=(v,k,e)) (he:e≠0):v= []∧k=0∧(e=2∨e=20∨e=21):=by
 unfold vec1 at h
 rcases hr:int1 b with⟨n,k1,e1⟩
 rw[hr] at h
 by_cases he1:e1=0
 ·subst he1
  simp only[if_pos] at h
  split at h
  ·simp at h;obtain⟨rfl,rfl,rfl⟩:=h;simp
  ·split at h
   ·simp at h;obtain⟨rfl,rfl,rfl⟩:=h;simp
   ·simp at h;omega
 ·simp only[if_neg he1,Prod.mk.injEq] at h
  obtain⟨rfl,rfl,rfl⟩:=h
  have:=(int1_bad hr he1).2.2
  exact⟨rfl,rfl,by omega⟩
end Wire
end
section
namespace Crc
def flip1 (l:List (BitVec 8)) (k:Nat):List (BitVec 8):=l.set (k/8) (l.getD (k/8) 0#8 ^^^ (1#8<<<(k%8)))
def flips (l:List (BitVec 8)) (p:Nat) (y:BitVec 32):Nat→List (BitVec 8)
 |0=>l
 |j+1=>if p+j<8*l.length∧y.getLsbD j=true then flip1 (flips l p y j) (p+j) else flips l p y j
def turned (p N:Nat) (y:BitVec 32):Nat→BitVec 32
 |0=>0#32
 |j+1=>if p+j<N∧y.getLsbD j=true then turned p N y j ^^^ (1#32<<<j) else turned p N y j
end Crc
end
section
namespace Seg
open Wire
def enc4 (n:Nat):List B8:= [BitVec.ofNat 8 n,BitVec.ofNat 8 (n/256),BitVec.ofNat 8 (n/65536),BitVec.ofNat 8 (n/16777216)]
def dec4 (a b c d:B8):Nat:=a.toNat+256*b.toNat+65536*c.toNat+16777216*d.toNat
theorem enc4_dec4 (a b c d:B8):enc4 (dec4 a b c d)= [a,b,c,d]:=by
 have ha:=a.isLt;have hb:=b.isLt;have hc:=c.isLt;have hd:=d.isLt
 unfold enc4
 have e0:BitVec.ofNat 8 (dec4 a b c d)=a:=by apply BitVec.eq_of_toNat_eq;rw[BitVec.toNat_ofNat];unfold dec4;omega
 have e1:BitVec.ofNat 8 (dec4 a b c d/256)=b:=by apply BitVec.eq_of_toNat_eq;rw[BitVec.toNat_ofNat];unfold dec4;omega
 have e2:BitVec.ofNat 8 (dec4 a b c d/65536)=c:=by apply BitVec.eq_of_toNat_eq;rw[BitVec.toNat_ofNat];unfold dec4;omega
 have e3:BitVec.ofNat 8 (dec4 a b c d/16777216)=d:=by apply BitVec.eq_of_toNat_eq;rw[BitVec.toNat_ofNat];unfold dec4;omega
 rw[e0,e1,e2,e3]
def four:List B8→Option Nat
 |a::b::c::d::_=>some (dec4 a b c d)
 |_=>none
theorem four_enc4 (n:Nat) (hn:n<4294967296) (r:List B8):four (enc4 n++r)=some n:=by
 simp only[enc4,List.cons_append,List.nil_append,four,dec4,BitVec.toNat_ofNat]
 congr 1;omega
theorem four_short {l:List B8} (h:l.length<4):four l=none:=by
 match l,h with
 | [],_=>rfl
 | [_],_=>rfl
 | [_,_],_=>rfl
 | [_,_,_],_=>rfl
theorem four_one {l:List B8} {n:Nat} (h:four l=some n):enc4 n=l.take 4∧4≤l.length∧n<4294967296:=by
 match l,h with
 |a::b::c::d::r,h=>
  simp only[four,Option.some.injEq] at h
  subst h
  have ha:=a.isLt;have hb:=b.isLt;have hc:=c.isLt;have hd:=d.isLt
  refine⟨by rw[enc4_dec4];rfl,by simp,?_⟩
  unfold dec4;omega
theorem enc4_len (n:Nat):(enc4 n).length=4:=rfl
def sumOf (x:List B8):Nat:=(Crc.goes 0#32 x).toNat
theorem sumOf_lt (x:List B8):sumOf x<4294967296:=(Crc.goes 0#32 x).isLt
def frame (x:List B8):List B8:=encV x++enc4 (sumOf x)
theorem frame_len (x:List B8):(frame x).length=(enc x.length).length+x.length+4:=by
 simp[frame,encV,enc4_len];omega
def tk (b:List B8):Option (List B8 × Nat):=
 let r:=vec1 b
 if r.2.2=0 then(if four (b.drop r.2.1)=some (sumOf r.1) then some (r.1,r.2.1+4) else none) else none
theorem tk_frame (x rest:List B8) (h:x.length≤65536):tk (frame x++rest)=some (x,(frame x).length):=by
 unfold tk frame
 rw[List.append_assoc,vec1_enc x _ h]
 simp only[if_pos,List.drop_left]
 rw[four_enc4 _ (sumOf_lt x)]
 simp[enc4_len]
theorem tk_cut (x:List B8) (j:Nat) (h:x.length≤65536) (hj:j<(frame x).length):tk ((frame x).take j)=none:=by
 unfold tk frame at*
 by_cases hc:j<(encV x).length
 ·rw[List.take_append_of_le_length (by omega),vec1_cut x j h hc]
  simp
 ·have e:(encV x++enc4 (sumOf x)).take j=encV x++(enc4 (sumOf x)).take (j-(encV x).length):=by
    rw[List.take_append,List.take_of_length_le (by omega)]
  rw[e,vec1_enc x _ h]
  rw[List.length_append,enc4_len] at hj
  simp only[if_pos,List.drop_left]
  rw[four_short (by rw[List.length_take,enc4_len];omega)]
  simp
theorem tk_one {b x:List B8} {k:Nat} (h:tk b=some (x,k)):frame x=b.take k∧k≤b.length∧x.length≤65536∧5≤k:=by
 unfold tk at h
 rcases hr:vec1 b with⟨v,j,e⟩
 rw[hr] at h
 by_cases he:e=0
 ·subst he
  simp only[if_pos] at h
  split at h
  ·rename_i h4
   simp only[Option.some.injEq,Prod.mk.injEq] at h
   obtain⟨rfl,rfl⟩:=h
   obtain⟨v1,v2,v3,v4⟩:=vec1_one hr
   obtain⟨f1,f2,-⟩:=four_one h4
   rw[List.length_drop] at f2
   refine⟨?_,by omega,v3,by omega⟩
   unfold frame
   rw[v1,f1,List.take_add]
  ·cases h
 ·simp[he] at h
structure Hdr where
 host:Int
 epoch:Int
 seq:Int
def hnums (h:Hdr):List Int:= [0,h.host,h.epoch,h.seq]
def nn (l:List Int):Prop:=∀z∈l,0≤z
instance (l:List Int):Decidable (nn l):=by unfold nn;infer_instance
def fits (l:List Int):Prop:=∀z∈l,z<9223372036854775808
def headX (h:Hdr):List B8:=encs ((hnums h).map Int.toNat)
def headB (h:Hdr):List B8 × Nat:=if nn (hnums h) then(frame (headX h),0) else([],1)
theorem fits_nat {l:List Int} (hf:fits l) (h:nn l):∀n∈l.map Int.toNat,n<9223372036854775808:=by
 intro n hn
 obtain⟨z,hz,rfl⟩:=List.mem_map.1 hn
 have:=hf z hz
 have:=h z hz
 omega
theorem headX_len (h:Hdr) (hf:fits (hnums h)) (hn:nn (hnums h)):(headX h).length≤40:=by
 have:=encs_len (l:=(hnums h).map Int.toNat) (fun n hn'=>by have:=fits_nat hf hn n hn';omega)
 simpa [hnums,headX] using this
def takeHead (x:List B8):Option Hdr:=
 let r:=ints 4 x
 if r.2.2=0∧r.2.1=x.length∧r.1.getD 0 0=0 then some ⟨(r.1.getD 1 0:Nat),(r.1.getD 2 0:Nat),(r.1.getD 3 0:Nat)⟩ else none
theorem takeHead_headX (h:Hdr) (hf:fits (hnums h)) (hn:nn (hnums h)):takeHead (headX h)=some h:=by
 have hi:=ints_encs [] ((hnums h).map Int.toNat) (fits_nat hf hn)
 rw[List.append_nil] at hi
 unfold takeHead
 have e:((hnums h).map Int.toNat).length=4:=rfl
 rw[e] at hi
 have h1:=hn h.host (by simp[hnums])
 have h2:=hn h.epoch (by simp[hnums])
 have h3:=hn h.seq (by simp[hnums])
 unfold headX
 rw[hi]
 obtain⟨a,b,c⟩:=h
 simp[hnums] at*
 omega
structure Rc where
 kind:Int
 lba:Int
 n:Int
 ver:Int
 zone:Int
 off:Int
 data:List B8
def nums (r:Rc):List Int:= [r.kind,r.lba,r.n,r.ver,r.zone,r.off]
def blocksB (r:Rc) (most:Int):Bool:=decide (1≤r.n)&&(decide (r.n≤most)&&decide (r.lba≤1099511627776-r.n))
def nowhereB (r:Rc):Bool:=(r.zone==0)&&(r.off==0)
def mayB (r:Rc):Bool:=
 if nn (nums r) then
  if r.kind=1 then blocksB r 256&&nowhereB r
  else if r.kind=2 then blocksB r 1099511627776&&nowhereB r
  else if r.kind=3 then blocksB r 1099511627776
  else if r.kind=4 then(r.lba==0)&&((r.n==0)&&nowhereB r)
  else if r.kind=5 then blocksB r 256
  else false
 else false
def bytesOf (r:Rc):Int:=if r.kind=1 then r.n*16 else if r.kind=5 then r.n*16 else 0
def check (r:Rc):Nat:=
 if mayB r=true then(if r.kind=4 then(if 32768<r.data.length then 2 else 0) else if(r.data.length:Int)=bytesOf r then 0 else 1) else 1
theorem check_le (r:Rc):check r=0∨check r=1∨check r=2:=by
 unfold check;repeat' split
 all_goals simp
theorem check_ok {r:Rc} (h:check r=0):nn (nums r)∧r.data.length≤32768:=by
 unfold check at h
 split at h
 ·rename_i hm
  unfold mayB at hm
  split at hm
  ·rename_i hn
   refine⟨hn,?_⟩
   split at h
   ·split at h
    ·cases h
    ·omega
   ·split at h
    ·rename_i h4 hl
     have hb:(r.data.length:Int)≤4096:=by
      rw[hl]
      unfold bytesOf
      repeat' split at hm
      all_goals(try simp only[blocksB,Bool.and_eq_true,decide_eq_true_eq] at hm)
      all_goals(repeat' split)
      all_goals(first|omega|contradiction|(cases hm))
     omega
    ·cases h
  ·cases hm
 ·cases h
def recX (r:Rc):List B8:=encs ((nums r).map Int.toNat)++encV r.data
def recB (r:Rc):List B8 × Nat:=if check r=0 then(frame (recX r),0) else([],check r)
theorem recX_len {r:Rc} (hf:fits (nums r)) (h:check r=0):(recX r).length≤40000:=by
 obtain⟨hn,hd⟩:=check_ok h
 have h1:=encs_len (l:=(nums r).map Int.toNat) (fun n hn'=>by have:=fits_nat hf hn n hn';omega)
 have h2:=enc_len_le (n:=r.data.length) (by omega)
 simp[recX,encV]
 simp[nums] at h1
 simp[nums]
 omega
def takeRec (x:List B8):Option Rc:=
 let r:=ints 6 x
 if r.2.2=0 then
  let v:=vec1 (x.drop r.2.1)
  if v.2.2=0∧r.2.1+v.2.1=x.length then
   let c:Rc:=⟨(r.1.getD 0 0:Nat),(r.1.getD 1 0:Nat),(r.1.getD 2 0:Nat),(r.1.getD 3 0:Nat),(r.1.getD 4 0:Nat),(r.1.getD 5 0:Nat),v.1⟩
   if check c=0 then some c else none
  else none
 else none
theorem takeRec_recX (r:Rc) (hf:fits (nums r)) (h:check r=0):takeRec (recX r)=some r:=by
 obtain⟨hn,hd⟩:=check_ok h
 have hi:=ints_encs (encV r.data) ((nums r).map Int.toNat) (fits_nat hf hn)
 have e:((nums r).map Int.toNat).length=6:=rfl
 rw[e] at hi
 have hv:=vec1_enc r.data [] (by omega)
 rw[List.append_nil] at hv
 unfold takeRec recX
 rw[hi]
 simp only[if_pos,List.drop_left,hv,List.length_append,and_self]
 have h1:=hn r.kind (by simp[nums])
 have h2:=hn r.lba (by simp[nums])
 have h3:=hn r.n (by simp[nums])
 have h4:=hn r.ver (by simp[nums])
 have h5:=hn r.zone (by simp[nums])
 have h6:=hn r.off (by simp[nums])
 have ec:(⟨((((nums r).map Int.toNat).getD 0 0:Nat):Int),(((nums r).map Int.toNat).getD 1 0:Nat),(((nums r).map Int.toNat).getD 2 0:Nat),(((nums r).map Int.toNat).getD 3 0:Nat),(((nums r).map Int.toNat).getD 4 0:Nat),(((nums r).map Int.toNat).getD 5 0:Nat),r.data⟩:Rc)=r:=by
  obtain⟨a,b,c,d,e,f,g⟩:=r
  simp[nums] at*
  omega
 rw[ec,if_pos h]
theorem takeRec_one {x:List B8} {r:Rc} (ht:takeRec x=some r):recX r=x∧check r=0∧fits (nums r):=by
 unfold takeRec at ht
 rcases hr:ints 6 x with⟨l,k,e⟩
 rw[hr] at ht
 simp only at ht
 split at ht
 ·rename_i he
  subst he
  rcases hv:vec1 (x.drop k) with⟨v,j,e2⟩
  rw[hv] at ht
  simp only at ht
  split at ht
  ·rename_i hc
   obtain⟨rfl,hx⟩:=hc
   split at ht
   ·rename_i hc
    simp only[Option.some.injEq] at ht
    obtain⟨a1,a2,a3,a4⟩:=ints_one _ _ _ _ hr
    obtain⟨v1,v2,v3,v4⟩:=vec1_one hv
    match l,a1 with
    | [p0,p1,p2,p3,p4,p5],_=>
      simp only[List.getD_cons_zero,List.getD_cons_succ] at ht hc
      subst ht
      refine⟨?_,hc,?_⟩
      ·have:recX ⟨p0,p1,p2,p3,p4,p5,v⟩=encs [p0,p1,p2,p3,p4,p5]++encV v:=by simp[recX,nums]
       rw[this,a3,v1,←List.take_add,hx,List.take_length]
      ·intro z hz
       have b0:=a4 p0 (by simp)
       have b1:=a4 p1 (by simp)
       have b2:=a4 p2 (by simp)
       have b3:=a4 p3 (by simp)
       have b4:=a4 p4 (by simp)
       have b5:=a4 p5 (by simp)
       simp[nums] at hz
       omega
   ·cases ht
  ·cases ht
 ·cases ht
def one (b:List B8):Option (Rc × Nat):=
 match tk b with
 |some (x,k)=>(match takeRec x with
  |some r=>some (r,k)
  |none=>none)
 |none=>none
inductive Scans:List B8→List (Rc × Nat)→Prop
 |stop {b} (h:one b=none):Scans b []
 |step {b r k l} (h:one b=some (r,k)) (hs:Scans (b.drop k) l):Scans b ((r,k)::l)
theorem Scans.det {b:List B8} {l m:List (Rc × Nat)} (h:Scans b l) (h':Scans b m):l=m:=by
 induction h generalizing m with
 |stop h=>
  cases h' with
  |stop _=>rfl
  |step h2 _=>rw[h] at h2;cases h2
 |step h _ ih=>
  cases h' with
  |stop h2=>rw[h] at h2;cases h2
  |step h2 hs2=>
   rw[h] at h2
   simp only[Option.some.injEq,Prod.mk.injEq] at h2
   obtain⟨rfl,rfl⟩:=h2
   rw[ih hs2]
theorem one_of {b x:List B8} {k:Nat} {r:Rc} (h:tk b=some (x,k)) (hr:takeRec x=some r):one b=some (r,k):=by
 unfold one;rw[h];simp only[hr]
theorem one_none {b:List B8} (h:tk b=none):one b=none:=by
 unfold one;rw[h]
theorem one_bad {b x:List B8} {k:Nat} (h:tk b=some (x,k)) (hr:takeRec x=none):one b=none:=by
 unfold one;rw[h];simp only[hr]
theorem one_one {b:List B8} {r:Rc} {k:Nat} (h:one b=some (r,k)):frame (recX r)=b.take k∧k≤b.length∧5≤k∧check r=0∧fits (nums r)∧(frame (recX r)).length=k:=by
 unfold one at h
 split at h
 ·rename_i x j ht
  split at h
  ·rename_i r' hr
   simp only[Option.some.injEq,Prod.mk.injEq] at h
   obtain⟨rfl,rfl⟩:=h
   obtain⟨t1,t2,t3,t4⟩:=tk_one ht
   obtain⟨r1,r2,r3⟩:=takeRec_one hr
   rw[r1]
   exact⟨t1,t2,t4,r2,r3,by rw[t1,List.length_take];omega⟩
  ·cases h
 ·cases h
def good (r:Rc):Prop:=check r=0∧fits (nums r)
theorem one_frame (r:Rc) (h:good r) (rest:List B8):one (frame (recX r)++rest)=some (r,(frame (recX r)).length):=
 one_of (tk_frame _ _ (by have:=recX_len h.2 h.1;omega)) (takeRec_recX r h.2 h.1)
def frames (l:List Rc):List B8:=l.flatMap fun r=>frame (recX r)
theorem frames_cons (r:Rc) (l:List Rc):frames (r::l)=frame (recX r)++frames l:=rfl
theorem frames_append (l m:List Rc):frames (l++m)=frames l++frames m:=by simp[frames]
def sized (l:List Rc):List (Rc × Nat):=l.map fun r=>(r,(frame (recX r)).length)
theorem scans_frames (rest:List B8) (hr:one rest=none):∀l:List Rc,(∀r∈l,good r)→Scans (frames l++rest) (sized l):=by
 intro l
 induction l with
 |nil=>intro _;exact .stop hr
 |cons r l ih=>
  intro h
  rw[frames_cons,List.append_assoc]
  refine .step (one_frame r (h r (by simp)) _) ?_
  rw[List.drop_left]
  exact ih fun r hr=>h r (by simp[hr])
theorem scans_one {b:List B8} {l:List (Rc × Nat)} (h:Scans b l):l=sized (l.map (·.1))∧(∀r∈l.map (·.1),good r)∧∃rest,b=frames (l.map (·.1))++rest∧one rest=none:=by
 induction h with
 |stop h=>exact⟨rfl,by simp,_,rfl,h⟩
 |step h hs ih=>
  rename_i b r k l
  obtain⟨o1,o2,o3,o4,o5,o6⟩:=one_one h
  obtain⟨i1,i2,rest,i3,i4⟩:=ih
  refine⟨?_,?_,rest,?_,i4⟩
  ·simp only[List.map_cons,sized] at i1 ⊢
   rw[o6,←i1]
  ·intro x hx
   rcases List.mem_cons.1 hx with rfl|hx
   ·exact⟨o4,o5⟩
   ·exact i2 x hx
  ·simp only[List.map_cons,frames_cons,List.append_assoc,←i3,o1]
   exact(List.take_append_drop k b).symm
theorem one_cut (r:Rc) (h:good r) (j:Nat) (hj:j<(frame (recX r)).length):one ((frame (recX r)).take j)=none:=
 one_none (tk_cut _ j (by have:=recX_len h.2 h.1;omega) hj)
def whole:List Rc→Nat→Nat
 | [],_=>0
 |r::l,c=>if(frame (recX r)).length≤c then whole l (c-(frame (recX r)).length)+1 else 0
theorem frames_mono (l:List Rc) {j k:Nat} (h:j≤k):(frames (l.take j)).length≤(frames (l.take k)).length:=by
 obtain⟨d,rfl⟩:=Nat.le.dest h
 rw[List.take_add,frames_append,List.length_append]
 omega
def recsB:List Rc→List B8 × Nat
 | []=>([],0)
 |r::l=>if check r=0 then(let t:=recsB l;if t.2=0 then(frame (recX r)++t.1,0) else([],t.2)) else([],check r)
def segB (h:Hdr) (l:List Rc):List B8 × Nat:=if nn (hnums h) then(let t:=recsB l;if t.2=0 then(frame (headX h)++t.1,0) else([],t.2)) else([],1)
theorem recsB_ok:∀l:List Rc,(∀r∈l,check r=0)→recsB l=(frames l,0):=by
 intro l
 induction l with
 |nil=>intro _;rfl
 |cons r l ih=>
  intro h
  rw[recsB,if_pos (h r (by simp)),ih fun r hr=>h r (by simp[hr])]
  rfl
theorem recsB_bad:∀(l:List Rc) (b:List B8) (e:Nat),recsB l=(b,e)→(e=0∧∀r∈l,check r=0)∨(e≠0∧b= []∧∃i r,l[i]? =some r∧check r=e∧∀r∈l.take i,check r=0):=by
 intro l
 induction l with
 |nil=>intro b e h;simp[recsB] at h;exact .inl ⟨h.2.symm,by simp⟩
 |cons r l ih=>
  intro b e h
  rw[recsB] at h
  split at h
  ·rename_i hc
   rcases ht:recsB l with⟨b',e'⟩
   rw[ht] at h
   rcases ih b' e' ht with⟨rfl,h2⟩|⟨h1,rfl,i,r',h3,h4,h5⟩
   ·simp at h
    refine .inl ⟨h.2.symm,?_⟩
    intro x hx
    rcases List.mem_cons.1 hx with rfl|hx
    ·exact hc
    ·exact h2 x hx
   ·simp only[if_neg h1,Prod.mk.injEq] at h
    obtain⟨rfl,rfl⟩:=h
    refine .inr ⟨h1,rfl,i+1,r',by simpa using h3,h4,?_⟩
    intro x hx
    rw[List.take_succ_cons] at hx
    rcases List.mem_cons.1 hx with rfl|hx
    ·exact hc
    ·exact h5 x hx
  ·rename_i hc
   simp only[Prod.mk.injEq] at h
   obtain⟨rfl,rfl⟩:=h
   exact .inr ⟨hc,rfl,0,r,rfl,rfl,by simp⟩
end Seg
end
section
open Go.RowKit Mem
namespace Wire
theorem or128 (n:Nat):bits .or .u8 ((n:Int)%256) 128=u (BitVec.ofNat 8 (n%128+128)):=by
 have h:=u8_or_nat (n%256) 128 (by omega) (by omega)
 have e:(((n%256:Nat):Int))=(n:Int)%256:=by omega
 rw[e] at h
 have h:bits .or .u8 ((n:Int)%256) 128=((n%256|||128:Nat):Int):=h
 rw[h]
 have h2:n%256|||128=n%128+128:=by
  by_cases h3:n%256<128
  ·have:=nat_join 7 128 (n%256) (by decide) (by simpa using h3)
   rw[Nat.or_comm,this];omega
  ·have h4:n%256=128+n%128:=by omega
   have:=nat_join 7 128 (n%128) (by decide) (by have:n%128<128:=Nat.mod_lt _ (by omega);simpa using this)
   rw[h4,←this,Nat.or_comm,←Nat.or_assoc,Nat.or_self,this];omega
 rw[h2]
 unfold u
 rw[BitVec.toNat_ofNat]
 omega
theorem low256 (n:Nat) (h:n<256):(n:Int)=u (BitVec.ofNat 8 n):=by
 unfold u
 rw[BitVec.toNat_ofNat]
 omega
def Gave {α:Type} (f:α→Value) (e:TypeId) (base:Nat) (w:World) (l:List α) (en:Ending) (w':World):Prop:=
 ∃A k c,en= .returned (.slice A k c)∧Owns f e base w' (.slice A k c) k l∧Below base w w'
theorem row_one {α:Type} (f:α→Value) (w:World) (x:α) (t:TypeId) (v:Value) (hv:v=f x):Row f (w.alloc (.cells #[v] t)) (some ⟨w.heap.size,0,none⟩) 1 1 [x]:=by
 subst hv
 refine⟨rfl,by omega,by omega,fun _=>⟨_,_,rfl,by simp,fun i y hi=> ?_⟩⟩
 have:i=0:=by
  rcases i with _|i
  ·rfl
  ·simp at hi
 subst this
 obtain rfl:x=y:=by simpa using hi
 have h:=heap_alloc_new w (.cells #[f x] t)
 simp only[World.cell?,h]
 rfl
theorem put_any (base n:Nat) (hn:n<18446744073709551616) (A:Option Addr) (k c:Nat) (l:List B8) (w:World) (hs:Owns cb 5 base w (.slice A k c) k l) (hb:base≤w.heap.size) (hk:k≤200000000000000):
  Calls Tryz.prog 105 #[.slice A k c,.int .u64 n] w (Gave cb 5 base w (l++enc n)):=by
 have h10:=enc_len_le hn
 have HS:=Lib.hid hs
 have hK:Hid (k+(enc n).length≤200000000000100):=by show _≤_;omega
 clear hs hk h10
 have HN:=Lib.hid hn
 clear hn
 go_enter Tryz.func105,Tryz.ntmps105
 go_wp2
 go_loopw [0,1] (fun s i wr=>∃(B:Option Addr) (j d m:Nat) (r:List B8),s= .slice B j d∧i= .int .u64 m∧Hid (m<18446744073709551616)∧Hid (Owns cb 5 base wr (.slice B j d) j r∧Below base w wr∧r++enc m=l++enc n∧j+(enc m).length=k+(enc n).length)) (fun _ i _=>(intOf i).toNat)
 case atStart=>exact⟨A,k,c,n,l,rfl,rfl,HN,HS.out,Below.refl _ _,rfl,rfl⟩
 case round=>
  obtain⟨B,j,d,m,r,rfl,rfl,hm,hO⟩:=hrel
  have hO':=hO.out.1
  have hj:Hid (j+(enc m).length≤200000000000100):=by have:=hO.out.2.2.2;have:=hK.out;show _≤_;omega
  have e1:=enc_pos m
  have hj1:j+1≤200000000000200:=by have:=hj.out;omega
  have HO:=Lib.hid hO'
  have HB:=Lib.hid (Nat.le_trans hb hO.out.2.1.size)
  clear hO' e1
  by_cases hlt:m<128
  ·have E:=Lib.hid (low256 m (by omega))
   have X:=Lib.hid (enc_lt hlt)
   go_wp2_with (at_builtin
                refine wpList_append_row cb_one Tryz.underlying37 info_byte rfl rfl (.tmp 15) (.tmp 18) rfl rfl base (.slice B j d) j r rfl (HO.out.alloc _) _ 1 1 [BitVec.ofNat 8 m] rfl (row_one cb wr _ _ _ (congrArg (Value.int .u8) E.out)) (by omega) (by omega) (by have:=HB.out;simp;omega) ?_
                intro A' c' w' hown' hb')
   go_ret
   refine⟨_,_,_,rfl,?_,?_⟩
   ·rw[←hO.out.2.2.1,X.out];exact hown'
   ·exact hO.out.2.1.trans (((Below.refl base wr).alloc HB.out _).trans hb')
  ·have E:=Lib.hid (or128 m)
   have X:=Lib.hid (enc_ge (n:=m) (by omega))
   go_wp2_with (at_builtin
                refine wpList_append_row cb_one Tryz.underlying37 info_byte rfl rfl (.tmp 9) (.tmp 13) rfl rfl base (.slice B j d) j r rfl (HO.out.alloc _) _ 1 1 [BitVec.ofNat 8 (m%128+128)] rfl (row_one cb wr _ _ _ (congrArg (Value.int .u8) E.out)) (by omega) (by omega) (by have:=HB.out;simp;omega) ?_
                intro A' c' w' hown' hb'
                have HW:=Lib.hid hown'
                have HB':=Lib.hid hb'
                clear hown' hb')
   go_roundw
   case rel=>
    refine⟨A',j+1,c',m/128,r++ [BitVec.ofNat 8 (m%128+128)],rfl,?_,?_,HW.out,?_,?_,?_⟩
    ·first|rfl|go_num
    ·have:=hm.out;show _<_;omega
    ·exact hO.out.2.1.trans (((Below.refl base wr).alloc HB.out _).trans HB'.out)
    ·rw[List.append_assoc,←hO.out.2.2.1,X.out];rfl
    ·rw[←hO.out.2.2.2,X.out];simp;omega
   case measure=>simp[intOf];omega
theorem putN_any (n:Nat) (hn:n<18446744073709551616) (w:World):
  Calls Tryz.prog 106 #[.int .u64 n] w (Gave cb 5 w.heap.size w (enc n)):=by
 have H:=Lib.hid (put_any w.heap.size n hn none 0 0 [] w (Owns.nil _ _ _ _) (Nat.le_refl _) (by omega))
 clear hn
 go_enter Tryz.func106,Tryz.ntmps106
 go_wp2_with (go_at_call 105;refine H.out.mono ?_;rintro e w' ⟨A,k,c,rfl,h1,h2⟩;have H1:=Lib.hid h1;have H2:=Lib.hid h2;clear h1 h2)
 go_ret
 exact⟨A,k,c,rfl,H1.out,H2.out⟩
theorem scan_at (l:List B8) (i:Nat) (x:B8) (h:l[i]? =some x):scan i (l.drop i)=if(i=9∧1<x.toNat)∨(0<i∧x.toNat=0) then(0,21) else if x.toNat<128 then(i+1,0) else scan (i+1) (l.drop (i+1)):=by
 obtain⟨hi,hx⟩:=List.getElem?_eq_some_iff.1 h
 rw[List.drop_eq_getElem_cons hi,hx,scan]
theorem leaf1 {l:List B8} {i:Nat} {x:B8} {r:Nat × Nat} (h:scan i (l.drop i)=if(i=9∧1<x.toNat)∨(0<i∧x.toNat=0) then(0,21) else if x.toNat<128 then(i+1,0) else scan (i+1) (l.drop (i+1))) (hr:scan i (l.drop i)=r)
  (hc:(i=9∧1<x.toNat)∨(0<i∧x.toNat=0)):r=(0,21):=by rw[←hr,h,if_pos hc]
theorem leaf2 {l:List B8} {i:Nat} {x:B8} {r:Nat × Nat} (h:scan i (l.drop i)=if(i=9∧1<x.toNat)∨(0<i∧x.toNat=0) then(0,21) else if x.toNat<128 then(i+1,0) else scan (i+1) (l.drop (i+1))) (hr:scan i (l.drop i)=r)
  (hc:¬((i=9∧1<x.toNat)∨(0<i∧x.toNat=0))) (hx:x.toNat<128):r=(i+1,0):=by rw[←hr,h,if_neg hc,if_pos hx]
theorem leaf3 {l:List B8} {i:Nat} {x:B8} {r:Nat × Nat} (h:scan i (l.drop i)=if(i=9∧1<x.toNat)∨(0<i∧x.toNat=0) then(0,21) else if x.toNat<128 then(i+1,0) else scan (i+1) (l.drop (i+1))) (hr:scan i (l.drop i)=r)
  (hc:¬((i=9∧1<x.toNat)∨(0<i∧x.toNat=0))) (hx:¬x.toNat<128):scan (i+1) (l.drop (i+1))=r:=by rw[←hr,h,if_neg hc,if_neg hx]
def Told (l:List B8) (w:World) (e:Ending) (w':World):Prop:=e= .returned (.tuple #[.int .i64 ((scan 0 l).1:Int),.int .i64 ((scan 0 l).2:Int)])∧w=w'
theorem told_of {l:List B8} {w:World} {a b:Nat} {x y:Int} (h:scan 0 l=(a,b)) (hx:x=a) (hy:y=b):Told l w (.returned (.tuple #[.int .i64 x,.int .i64 y])) w:=by
 unfold Told;rw[h,hx,hy];exact⟨rfl,rfl⟩
theorem length_any (A:Option Addr) (n c:Nat) (l:List B8) (w:World) (h:Row cb w A n c l):
  Calls Tryz.prog 205 #[.slice A n c] w (Told l w):=by
 have HR:=Lib.hid h
 have hn:=h.big
 clear h
 go_enter Tryz.func205,Tryz.ntmps205
 go_wp2
 go_loop [8] (fun i=>∃k:Nat,k≤n∧i= .int .i64 k∧Hid (scan k (l.drop k)=scan 0 l)) (fun i=>n-(intOf i).toNat)
 case atStart=>exact⟨0,by omega,rfl,rfl⟩
 case round=>
  obtain⟨k,hk,rfl,hS⟩:=hrel
  by_cases hlt:k<n
  ·obtain⟨x,hx⟩:=HR.out.get hlt
   obtain⟨b,o,rfl,hcell⟩:=HR.out.cell hx
   have S:=Lib.hid (scan_at l k x hx)
   clear hx
   have hx0:=u_nonneg x
   have hx1:=u_lt x
   have hcell':w.cell? ⟨b,o+k,none⟩=some (.int .u8 (u x)):=hcell
   have U:Hid (u x=(x.toNat:Int)):=rfl
   clear hcell
   go_wp2
   all_goals first
    |(go_ret2
      have hU:=U.out
      (try have hz:=eq_of_beq (by assumption:(u x==0)=true))
      (try have hz:=ne_of_beq_false (by assumption:(u x==0)=false))
      first
       |exact told_of (leaf1 S.out hS.out (by omega)) (by omega) (by omega)
       |exact told_of (leaf2 S.out hS.out (by omega) (by omega)) (by omega) (by omega))
    |(go_round
      case rel=>
       have hU:=U.out
       (try have hz:=ne_of_beq_false (by assumption:(u x==0)=false))
       exact⟨k+1,by omega,by go_num,leaf3 S.out hS.out (by omega) (by omega)⟩
      case measure=>simp[intOf];omega)
  ·have hE:Hid (scan 0 l=(0,20)):=by
     have e:l.drop k= []:=List.drop_of_length_le (by have:=HR.out.len;omega)
     show _=_
     rw[←hS.out,e];rfl
   go_wp2
   go_ret2
   exact told_of hE.out rfl rfl
end Wire
end
end Go.Proofs.YtmkagjnkpjpjcaaGreat
