/-
  SEVERAL TEXTS IN ONE FILE: PZonMath, PZonMem, PZonCheck, PZonApp, PZonMore, PZonTorn, PZonRefA, PZonOpen, PZonCount, PZonAny, PZnsMath, PZonRefS, PZonHeld, PZonBut.
-/
import Derived.Test.YtmkagjnkpjpjcaaGreatJ02
import Derived.LoopTactic
import Derived.Deep.LoopGhost
import Derived.Deep.DeepCutAuto
import Derived.Lib.LazyBuf
import Derived.Lib.AppendZeros
import Derived.BigQuiet
import Derived.DeepKeys
import Derived.Deep.MidRow
import Derived.WalkSmall
namespace Go.Proofs.YtmkagjnkpjpjcaaGreat
set_option maxRecDepth 100000
set_option linter.unusedSimpArgs false
set_option linter.unusedVariables false
set_option maxHeartbeats 3200000
section
open Go.RowKit Mem
namespace Zon
abbrev B8:=BitVec 8
structure Zn where
 st:Int
 fc:Int
 data:List B8
def nilZ:Zn:=⟨0,0,[]⟩
def Zn.len (z:Zn):Int:=(z.data.length:Int)
def zv (z:Zn) (D:Option Addr) (c:Nat):Value:= .agg #[.int .i64 z.st,.int .i64 z.fc,.slice D z.data.length c]
def mayB (st n most:Int):Bool:=
 bif st==0 then n==0 else bif (st==1||st==3) then !(n==0)&&decide (n<most) else bif st==2 then decide (n<most) else bif st==4 then decide (n≤most) else false
def okB (z:Zn) (most:Int):Bool:= !decide (most<1)&&(!decide (65536<most)&&(!decide (z.fc<0)&&mayB z.st z.len most))
def errOf (b:Bool):Int:=bif b then 0 else 1
def appErr (z:Zn) (most:Int) (n:Nat):Int:=
 bif !okB z most then 1 else bif n==0 then 1 else bif z.st==4 then 41 else bif decide (most<z.len+n) then 40 else 0
def stB (st n most:Int):Int:=bif n==most then 4 else bif st==2 then 2 else 1
def appZ (z:Zn) (most:Int) (b:List B8):Zn:=⟨stB z.st (z.len+b.length) most,z.fc,z.data++b⟩
def inZ (z:Zn) (st:Int):Zn:=⟨st,z.fc,z.data⟩
theorem mayB_le {st most:Int} {n:Nat} (hm:0≤most) (h:mayB st n most=true):(n:Int)≤most:=by
 unfold mayB at h
 rcases e0:(st==0)<;>rw[e0] at h
 ·rcases e1:(st==1||st==3)<;>rw[e1] at h
  ·rcases e2:(st==2)<;>rw[e2] at h
   ·rcases e4:(st==4)<;>rw[e4] at h
    ·simp at h
    ·simpa using h
   ·simp at h;omega
  ·simp at h;omega
 ·simp at h;omega
theorem ok_parts {z:Zn} {most:Int} (h:okB z most=true):1≤most∧most≤65536∧0≤z.fc∧mayB z.st z.len most=true∧z.len≤most:=by
 unfold okB at h
 simp only[Bool.and_eq_true,Bool.not_eq_true',decide_eq_false_iff_not] at h
 obtain⟨h1,h2,h3,h4⟩:=h
 exact⟨by omega,by omega,by omega,h4,mayB_le (by omega) h4⟩
theorem app_cases (z:Zn) (most:Int) (n:Nat):
  (okB z most=false∧appErr z most n=1)∨(okB z most=true∧n=0∧appErr z most n=1)∨(okB z most=true∧0<n∧z.st=4∧appErr z most n=41)∨
   (okB z most=true∧0<n∧z.st≠4∧most<z.len+n∧appErr z most n=40)∨(okB z most=true∧0<n∧z.st≠4∧z.len+n≤most∧appErr z most n=0):=by
 unfold appErr
 rcases ho:okB z most
 ·exact .inl ⟨rfl,rfl⟩
 ·refine .inr ?_
  rcases Nat.eq_zero_or_pos n with h0|h0
  ·subst h0;exact .inl ⟨rfl,rfl,rfl⟩
  ·refine .inr ?_
   have e0:(n==0)=false:=beq_eq_false_iff_ne.2 (by omega)
   rw[e0]
   by_cases h4:z.st=4
   ·refine .inl ⟨rfl,h0,h4,?_⟩
    rw[h4];rfl
   ·refine .inr ?_
    have e4:(z.st==4)=false:=beq_eq_false_iff_ne.2 h4
    rw[e4]
    by_cases hf:most<z.len+n
    ·refine .inl ⟨rfl,h0,h4,hf,?_⟩
     rw[decide_eq_true hf];rfl
    ·refine .inr ⟨rfl,h0,h4,by omega,?_⟩
     rw[decide_eq_false hf];rfl
theorem appErr_zero {z:Zn} {most:Int} {n:Nat} (h:appErr z most n=0):okB z most=true∧0<n∧z.st≠4∧z.len+n≤most:=by
 rcases app_cases z most n with⟨-,h'⟩|⟨-,-,h'⟩|⟨-,-,-,h'⟩|⟨-,-,-,-,h'⟩|⟨h1,h2,h3,h4,-⟩
 ·rw[h] at h';cases h'
 ·rw[h] at h';cases h'
 ·rw[h] at h';cases h'
 ·rw[h] at h';cases h'
 ·exact⟨h1,h2,h3,h4⟩
theorem appErr_of {z:Zn} {most:Int} {n:Nat} (h1:okB z most=true) (h2:0<n) (h3:z.st≠4) (h4:z.len+n≤most):appErr z most n=0:=by
 unfold appErr
 rw[h1,beq_eq_false_iff_ne.2 (by omega:n≠0),beq_eq_false_iff_ne.2 h3,decide_eq_false (by omega)]
 rfl
end Zon
end
section
open Go.RowKit Mem
namespace Zon
def Gave {α:Type} (f:α→Value) (e:TypeId) (base:Nat) (w:World) (l:List α) (en:Ending) (w':World):Prop:=
 ∃A k c,en= .returned (.slice A k c)∧Owns f e base w' (.slice A k c) k l∧Below base w w'
def GaveE {α:Type} (f:α→Value) (e:TypeId) (base:Nat) (w:World) (l:List α) (er:Int) (en:Ending) (w':World):Prop:=
 ∃A k c,en= .returned (.tuple #[.slice A k c,.int .i64 er])∧Owns f e base w' (.slice A k c) k l∧Below base w w'
theorem gave_row {α:Type} {f:α→Value} {e:TypeId} {l:List α} {w':World} {b:Nat} {X:Option Addr} {k c:Nat} (h:Owns f e b w' (.slice X k c) k l) (hn:l.length≤140737488351232):Row f w' X l.length c l∧k=l.length:=by
 obtain rfl:l.length=k:=h.len
 obtain⟨A,c',e,hr⟩:=h.row hn
 injection e with e1 _ e3
 subst e1 e3
 exact⟨hr,rfl⟩
theorem frozen_of {w:World} {g:Nat} {cs:Array Value} {t:TypeId} (h:w.heap[g]? =some (.cells cs t (0,0))) (i:Nat):w.frozen? ⟨g,i,none⟩=false:=by simp[World.frozen?,h]
theorem heap_set {w:World} {g:Nat} {cs:Array Value} {e:TypeId} (h:w.heap[g]? =some (.cells cs e (0,0))) (i:Nat) (v:Value):(w.setCell ⟨g,i,none⟩ v).heap[g]? =some (.cells (cs.setIfInBounds i v) e (0,0)):=by
 simp[World.setCell,Array.getElem?_modify,h]
def Cells (w:World) (g:Nat) (t:TypeId) (cs:Array Value):Prop:=w.heap[g]? =some (.cells cs t (0,0))
theorem Cells.below {w w':World} {g:Nat} {t:TypeId} {cs:Array Value} (h:Cells w g t cs) (hb:Below w.heap.size w w'):Cells w' g t cs:=(hb.block _ (Array.getElem?_eq_some_iff.1 h).1).trans h
theorem Cells.lt {w:World} {g:Nat} {t:TypeId} {cs:Array Value} (h:Cells w g t cs):g<w.heap.size:=(Array.getElem?_eq_some_iff.1 h).1
theorem Cells.cell {w:World} {g:Nat} {t:TypeId} {cs:Array Value} (h:Cells w g t cs) (i:Nat):w.cell? ⟨g,i,none⟩=cs[i]? :=cell_of_row _ _ _ _ _ _ h
theorem Cells.frozen {w:World} {g:Nat} {t:TypeId} {cs:Array Value} (h:Cells w g t cs) (i:Nat):w.frozen? ⟨g,i,none⟩=false:=frozen_of h i
theorem Cells.set_ {w:World} {g:Nat} {t:TypeId} {cs:Array Value} (h:Cells w g t cs) (i:Nat) (v:Value):Cells (w.setCell ⟨g,i,none⟩ v) g t (cs.setIfInBounds i v):=heap_set h i v
theorem Cells.set_other {w:World} {g g':Nat} {t:TypeId} {cs:Array Value} (h:Cells w g t cs) (hne:g'≠g) (i:Nat) (v:Value):Cells (w.setCell ⟨g',i,none⟩ v) g t cs:=(Below.heap_setCell _ _ _ _ (Ne.symm hne)).trans h
theorem Cells.new (w:World) (cs:Array Value) (t:TypeId):Cells (w.alloc (.cells cs t)) w.heap.size t cs:=heap_alloc_new w _
theorem head0 (A:Option Addr) (n c:Nat) (w:World):(Instr.slice 37 (.slice A n c) none (some (.int .i64 0)) none).run Tryz.prog w= .ok (.slice A 0 c) w:=run_head A n c 0 (by omega) w
theorem growNil_any (n:Nat) (hn:n≤140737488351232) (w:World):
  Calls Tryz.prog 204 #[.slice none 0 0,.int .i64 n] w (Gave cb 5 w.heap.size w ([]:List (BitVec 8))):=by
 rcases Nat.eq_zero_or_pos n with h0|h0
 ·subst h0
  go_enter Tryz.func204,Tryz.ntmps204
  go_wp2
  go_ret
  exact⟨_,_,_,rfl,Owns.nil _ _ _ _,Below.refl _ _⟩
 ·obtain⟨i,hi,hz0,hz1,hz2⟩:=info_parts info_byte
  have hr:=fun w=>Lib.run_append_nil_zeros (P:=Tryz.prog) w 37 3 37 5 i _ .i64 .i64 Tryz.underlying37 Tryz.underlying3 hi hz0 n h0 (by omega) (by omega) (by rw[hz2];omega)
  have HR:=Lib.hid hr
  have hsl:=head0
  clear hr hi hz0 hz1 hz2
  go_enter Tryz.func204,Tryz.ntmps204
  go_wp2_with (at_builtin
               refine Lib.wpList_append_run _ rfl (.tmp 20) (.tmp 21) _ _ rfl _ _ rfl rfl _ _ (HR.out _) ?_)
  go_ret
  refine⟨_,_,_,rfl,?_,(Below.refl _ w).drew.alloc (Nat.le_refl _) _⟩
  refine World.ownsRow_made w.drew _ _ (Nat.le_refl _) (grownCap_le_maxLen w n 0 _ (by unfold maxLen;omega)) ?_
  have:=grownCap_ge w n 0 5
  rw[Array.size_append,size_zeroCells,size_zeroCells]
  show n*1+(grownCap w n 0 5-n)*1=grownCap w n 0 5*1
  omega
structure Piece where
 A:Option Addr
 n:Nat
 c:Nat
 l:List (BitVec 8)
def Piece.val (p:Piece):Value:= .slice p.A p.n p.c
def total (ps:List Piece):Nat:=(ps.map Piece.n).sum
def joined (ps:List Piece):List (BitVec 8):=ps.flatMap Piece.l
theorem total_snoc (ps:List Piece) (p:Piece):total (ps++ [p])=total ps+p.n:=by simp[total]
theorem joined_snoc (ps:List Piece) (p:Piece):joined (ps++ [p])=joined ps++p.l:=by simp[joined]
theorem total_take_le (ps:List Piece) (k:Nat):total (ps.take k)≤total ps:=by
 conv=>rhs;rw[←List.take_append_drop k ps]
 unfold total
 rw[List.map_append,List.sum_append]
 omega
theorem concat_any {A:Option Addr} {n c:Nat} {ps:List Piece} {w:World} (h:Row Piece.val w A n c ps) (hp:∀p∈ps,Row cb w p.A p.n p.c p.l) (ht:total ps≤140737488351232):
  Calls Tryz.prog 190 #[.slice A n c] w (Gave cb 5 w.heap.size w (joined ps)):=by
 have HR:=Lib.hid h
 have HP:=Lib.hid hp
 have hb:=h.big
 have hjl:Hid ((joined ps).length=total ps):=by
  show _=_
  clear HR HP h hb ht
  induction ps with
  |nil=>rfl
  |cons p ps ih=>
   have h1:=(hp p (by simp)).len
   have h2:=ih fun q hq=>hp q (by simp[hq])
   simp only[joined,total,List.flatMap_cons,List.length_append,List.map_cons,List.sum_cons] at*
   omega
 clear h hp
 go_enter Tryz.func190,Tryz.ntmps190
 go_wp2
 go_loop [3,11] (fun s i=>∃k z:Nat,i= .int .i64 k∧s= .int .i64 z∧k≤n∧z≤total ps∧Hid (total (ps.take k)=z)) (fun _ i=>n-(intOf i).toNat)
 case atStart=>exact⟨0,0,rfl,rfl,by omega,by omega,rfl⟩
 case round=>
  obtain⟨k,z,rfl,rfl,hk,hz,hT⟩:=hrel
  by_cases hlt:k<n
  ·obtain⟨p,hp⟩:=HR.out.get hlt
   obtain⟨b,o,rfl,hcell⟩:=HR.out.cell hp
   have hcell':w.cell? ⟨b,o+k,none⟩=some (.slice p.A p.n p.c):=hcell
   have hzn:z+p.n≤total ps:=by
    have h1:=total_take_le ps (k+1)
    rw[List.take_add_one,hp] at h1
    have h2:=total_snoc (ps.take k) p
    have:=hT.out
    simp only[Option.toList_some] at h1
    omega
   have HE:=Lib.hid hp
   have hpn:=(HP.out p (List.mem_of_getElem? hp)).big
   clear hcell hp
   go_wp2
   go_round
   case rel=>exact⟨k+1,z+p.n,by go_num,by go_num,by omega,hzn,by show _=_;rw[List.take_add_one,HE.out,Option.toList_some,total_snoc,hT.out]⟩
   case measure=>simp[intOf];omega
  ·have hkn:ps.take k=ps:=List.take_of_length_le (by have:=HR.out.len;omega)
   have hz2:total ps=z:=by rw[←hT.out,hkn]
   have HZ:=Lib.hid hz2
   have HG:=Lib.hid (fun w=>growNil_any z (by omega) w)
   clear hkn hz2 hT
   go_wp2_with (go_at_call 204;refine(HG.out _).mono ?_;rintro e w2 ⟨G,g,gc,rfl,hG,hb2⟩;obtain rfl:g=0:=hG.len.symm;have OG:=Lib.hid hG;have B2:=Lib.hid hb2;clear hG hb2)
   go_loopw [6,27] (fun s i wr=>∃(S:Option Addr) (j d q:Nat),s= .slice S j d∧i= .int .i64 q∧q≤n∧Hid (Owns cb 5 w.heap.size wr (.slice S j d) j (joined (ps.take q))∧Below w.heap.size w wr∧j=total (ps.take q))) (fun _ i _=>n-(intOf i).toNat)
   case atStart=>exact⟨G,0,gc,0,rfl,rfl,by omega,OG.out,B2.out,rfl⟩
   case round=>
    obtain⟨S,j,d,q,rfl,rfl,hq,hO⟩:=hrel
    by_cases hlq:q<n
    ·obtain⟨p,hp⟩:=HR.out.get hlq
     obtain⟨b,o,rfl,hcell⟩:=(HR.out.below hO.out.2.1).cell hp
     have hcell':wr.cell? ⟨b,o+q,none⟩=some (.slice p.A p.n p.c):=hcell
     have hzn:Hid (j+p.n≤total ps):=by
      have h1:=total_take_le ps (q+1)
      rw[List.take_add_one,hp] at h1
      have h2:=total_snoc (ps.take q) p
      have:=hO.out.2.2
      simp only[Option.toList_some] at h1
      show _≤_
      omega
     have HE:=Lib.hid hp
     have RP:=Lib.hid ((HP.out p (List.mem_of_getElem? hp)).below hO.out.2.1)
     clear hcell hp
     go_wp2_with (at_builtin
                  refine wpList_append_row cb_one Tryz.underlying37 info_byte rfl rfl (.tmp 31) (.tmp 32) rfl rfl w.heap.size (.slice S j d) j _ rfl hO.out.1 p.A p.n p.c p.l rfl RP.out (by have:=hzn.out;omega) (by have:=hzn.out;omega) hO.out.2.1.size ?_
                  intro A3 c3 w3 hown3 hb3
                  have O3:=Lib.hid hown3
                  have B3:=Lib.hid hb3
                  clear hown3 hb3)
     go_roundw
     case rel=>
      refine⟨A3,j+p.n,c3,q+1,rfl,by go_num,by omega,?_,hO.out.2.1.trans B3.out,?_⟩
      ·rw[List.take_add_one,HE.out,Option.toList_some,joined_snoc];exact O3.out
      ·rw[List.take_add_one,HE.out,Option.toList_some,total_snoc,←hO.out.2.2]
     case measure=>simp[intOf];omega
    ·have hkn:ps.take q=ps:=List.take_of_length_le (by have:=HR.out.len;omega)
     have HK:=Lib.hid hkn
     clear hkn
     go_wp2
     go_ret
     have h:=hO.out
     rw[HK.out] at h
     exact⟨_,_,_,rfl,h.1,h.2.1⟩
theorem run_eql_nil (w:World) (A:Option Addr) (n c:Nat):(binOp .eql 37 (.slice A n c) (.slice none 0 0)).run Tryz.prog w= .ok (.bool A.isNone) w:=
 Go.run_eql_slice_nil w _ _ A n c Tryz.underlying37
theorem clone_any {A:Option Addr} {n c:Nat} {l:List B8} {w:World} (h:Row cb w A n c l):
  Calls Tryz.prog 54 #[.slice A n c] w (Gave cb 5 w.heap.size w l):=by
 have HR:=Lib.hid h
 have hb:=h.big
 clear h
 have hq:=fun w=>run_eql_nil w A n c
 rcases A with _|a
 ·have hn:n=0:=by
    rcases Nat.eq_zero_or_pos n with h0|h0
    ·exact h0
    ·obtain⟨b,o,e,-⟩:=HR.out.at_ h0
     cases e
  have hl:l= []:=List.eq_nil_of_length_eq_zero (by rw[HR.out.len,hn])
  subst hn hl
  have hd:(none:Option Addr).isNone=true:=rfl
  rw[hd] at hq
  go_enter Tryz.func54,Tryz.ntmps54
  go_wp2
  go_ret
  exact⟨_,_,_,rfl,Owns.nil _ _ _ _,Below.refl _ _⟩
 ·have hd:(some a).isNone=false:=rfl
  rw[hd] at hq
  go_enter Tryz.func54,Tryz.ntmps54
  go_wp2_with (at_builtin
               refine wpList_append_row cb_one Tryz.underlying37 info_byte rfl rfl (.tmp 5) (.tmp 6) rfl rfl w.heap.size _ 0 [] rfl (Owns.made cb 5 w [] (by decide) (Nat.le_refl _)) (some a) n c l rfl (HR.out.alloc _) (by omega) (by omega) (by simp) ?_
               intro A' c' w' hown' hb'
               have O:=Lib.hid (show Owns cb 5 w.heap.size w' (.slice A' n c') n l by simpa using hown')
               have B:=Lib.hid hb'
               clear hown' hb')
  go_ret
  exact⟨_,_,_,rfl,O.out,((Below.refl _ w).alloc (Nat.le_refl _) _).trans B.out⟩
theorem results_zone_tmp {P:Program} {fn:Func} {p u:Tmp} {ty:TypeId} (h:fn.results= #[.cell p ty,.tmp u]) (tmps:Array Value) (w:World) (g:Nat) (t:TypeId) (cs:Array Value) (fr:Nat × Nat) (d:TypeDesc)
  (hp:tmps.getD p undef= .pointer (some ⟨g,0,none⟩)) (hg:w.heap[g]? =some (.cells cs t fr))
  (hu:P.underlying ty=some d) (hd:(match d with| .struct _| .array _ _=>true|_=>false)=true) (hi:(P.info? ty).map (·.size)=some cs.size):
  (results fn tmps).run P w= .ok (.tuple #[.agg cs,tmps.getD u undef]) w:=by
 have hp':tmps[p]?.getD undef= .pointer (some ⟨g,0,none⟩):=by simpa using hp
 simp[results,h,hp',asAddr,Result.andThen,run_loadVar_row w g t ty cs fr d hg hu hd hi]
theorem results_zone_tmp2 {P:Program} {fn:Func} {p u v:Tmp} {ty:TypeId} (h:fn.results= #[.cell p ty,.tmp u,.tmp v]) (tmps:Array Value) (w:World) (g:Nat) (t:TypeId) (cs:Array Value) (fr:Nat × Nat) (d:TypeDesc)
  (hp:tmps.getD p undef= .pointer (some ⟨g,0,none⟩)) (hg:w.heap[g]? =some (.cells cs t fr))
  (hu:P.underlying ty=some d) (hd:(match d with| .struct _| .array _ _=>true|_=>false)=true) (hi:(P.info? ty).map (·.size)=some cs.size):
  (results fn tmps).run P w= .ok (.tuple #[.agg cs,tmps.getD u undef,tmps.getD v undef]) w:=by
 have hp':tmps[p]?.getD undef= .pointer (some ⟨g,0,none⟩):=by simpa using hp
 simp[results,h,hp',asAddr,Result.andThen,run_loadVar_row w g t ty cs fr d hg hu hd hi]
end Zon
end
section
open Go.RowKit Mem
namespace Zon
def Box (w:World) (g:Nat) (z:Zn) (D:Option Addr) (c:Nat):Prop:=Cells w g 46 #[.int .i64 z.st,.int .i64 z.fc,.slice D z.data.length c]
section
variable {w w':World} {g:Nat} {z:Zn} {D:Option Addr} {c:Nat}
theorem Box.lt (h:Box w g z D c):g<w.heap.size:=Cells.lt h
theorem Box.below (h:Box w g z D c) (hb:Below w.heap.size w w'):Box w' g z D c:=Cells.below h hb
theorem Box.alloc (h:Box w g z D c) (o:Obj):Box (w.alloc o) g z D c:=h.below ((Below.refl _ w).alloc (Nat.le_refl _) o)
theorem Box.cells (h:Box w g z D c):w.cell? ⟨g,0,none⟩=some (.int .i64 z.st)∧w.cell? ⟨g,1,none⟩=some (.int .i64 z.fc)∧w.cell? ⟨g,2,none⟩=some (.slice D z.data.length c):=⟨Cells.cell h 0,Cells.cell h 1,Cells.cell h 2⟩
theorem Box.frozen (h:Box w g z D c):w.frozen? ⟨g,0,none⟩=false∧w.frozen? ⟨g,1,none⟩=false∧w.frozen? ⟨g,2,none⟩=false:=⟨Cells.frozen h 0,Cells.frozen h 1,Cells.frozen h 2⟩
theorem Box.new (w:World) (z:Zn) (D:Option Addr) (c:Nat):Box (w.alloc (.cells #[.int .i64 z.st,.int .i64 z.fc,.slice D z.data.length c] 46)) w.heap.size z D c:=Cells.new w _ _
end
theorem bytesMayBe_any (st n most:Int) (w:World):
  Calls Tryz.prog 89 #[.int .i64 st,.int .i64 n,.int .i64 most] w fun e w'=>e= .returned (.bool (mayB st n most))∧w'=w:=by
 unfold mayB
 rcases e0:(st==0)
 ·rcases e1:(st==1)
  ·rcases e3:(st==3)
   ·rcases e2:(st==2)
    ·rcases e4:(st==4)
     all_goals
      go_enter Tryz.func89,Tryz.ntmps89
      go_wp2
      go_ret
      exact⟨rfl,rfl⟩
    ·go_enter Tryz.func89,Tryz.ntmps89
     go_wp2
     go_ret
     exact⟨rfl,rfl⟩
   ·rcases en:(n==0)
    all_goals
     go_enter Tryz.func89,Tryz.ntmps89
     go_wp2
     go_ret
     exact⟨rfl,rfl⟩
  ·rcases en:(n==0)
   all_goals
    go_enter Tryz.func89,Tryz.ntmps89
    go_wp2
    go_ret
    exact⟨rfl,rfl⟩
 ·go_enter Tryz.func89,Tryz.ntmps89
  go_wp2
  go_ret
  exact⟨rfl,rfl⟩
theorem stateBehind_any (st n most:Int) (w:World):
  Calls Tryz.prog 189 #[.int .i64 st,.int .i64 n,.int .i64 most] w fun e w'=>e= .returned (.int .i64 (stB st n most))∧w'=w:=by
 unfold stB
 rcases e0:(n==most)
 ·rcases e2:(st==2)
  all_goals
   go_enter Tryz.func189,Tryz.ntmps189
   go_wp2
   go_ret
   exact⟨rfl,rfl⟩
 ·go_enter Tryz.func189,Tryz.ntmps189
  go_wp2
  go_ret
  exact⟨rfl,rfl⟩
theorem check_any (z:Zn) (D:Option Addr) (c:Nat) (most:Int) (w:World):
  Calls Tryz.prog 55 #[zv z D c,.int .i64 most] w fun e w'=>e= .returned (.int .i64 (errOf (okB z most)))∧Below w.heap.size w w':=by
 have HM:=fun w=>bytesMayBe_any z.st z.len most w
 have L1:=Lib.hid ((Below.refl w.heap.size w).alloc (Nat.le_refl _) (.cells #[.int .i64 z.st,.int .i64 z.fc,.slice D z.data.length c] 46))
 have B1:=Lib.hid (Box.new w z D c)
 unfold zv okB
 unfold Zn.len at*
 rcases e1:decide (most<1)
 ·rcases e2:decide (65536<most)
  ·rcases e3:decide (z.fc<0)
   ·rcases e4:mayB z.st z.data.length most
    all_goals
     rw[e4] at HM
     go_enter Tryz.func55,Tryz.ntmps55
     go_wp2_with fail
     generalize w.alloc (.cells #[.int .i64 z.st,.int .i64 z.fc,.slice D z.data.length c] 46)=w1 at*
     refine(HM w1).mono ?_
     rintro e w2 ⟨rfl,rfl⟩
     go_wp2_with fail
     go_ret
     exact⟨rfl,L1.out⟩
   ·go_enter Tryz.func55,Tryz.ntmps55
    go_wp2_with fail
    go_ret
    exact⟨rfl,L1.out⟩
  ·go_enter Tryz.func55,Tryz.ntmps55
   go_wp2_with fail
   go_ret
   exact⟨rfl,L1.out⟩
 ·go_enter Tryz.func55,Tryz.ntmps55
  go_wp2_with fail
  go_ret
  exact⟨rfl,L1.out⟩
theorem appendError_any (z:Zn) (D:Option Addr) (c:Nat) (most:Int) (B:Option Addr) (n d:Nat) (hn:n≤140737488351232) (w:World):
  Calls Tryz.prog 188 #[zv z D c,.int .i64 most,.slice B n d] w fun e w'=>e= .returned (.int .i64 (appErr z most n))∧Below w.heap.size w w':=by
 have HC:=fun w=>Lib.hid (check_any z D c most w)
 have L1:=Lib.hid ((Below.refl w.heap.size w).alloc (Nat.le_refl _) (.cells #[.int .i64 z.st,.int .i64 z.fc,.slice D z.data.length c] 46))
 have B1:=Lib.hid (Box.new w z D c)
 unfold zv at*
 rcases app_cases z most n with⟨ho,he⟩|⟨ho,h0,he⟩|⟨ho,h0,h4,he⟩|⟨ho,h0,h4,hf,he⟩|⟨ho,h0,h4,hf,he⟩
 ·rw[ho] at HC
  rw[he]
  have e1:errOf false=1:=rfl
  rw[e1] at HC
  go_enter Tryz.func188,Tryz.ntmps188
  go_wp2_with fail
  generalize w.alloc (.cells #[.int .i64 z.st,.int .i64 z.fc,.slice D z.data.length c] 46)=w1 at*
  refine(HC w1).out.mono ?_
  rintro e w2 ⟨rfl,hb2⟩
  have L2:=Lib.hid (L1.out.trans (hb2.mono L1.out.size))
  clear hb2
  go_wp2_with fail
  go_ret
  exact⟨rfl,L2.out⟩
 all_goals
  obtain⟨p1,p2,-,-,p5⟩:=ok_parts ho
  rw[ho] at HC
  rw[he]
  have e1:errOf true=0:=rfl
  rw[e1] at HC
  clear he ho e1
  unfold Zn.len at*
 ·subst h0
  go_enter Tryz.func188,Tryz.ntmps188
  go_wp2_with fail
  generalize w.alloc (.cells #[.int .i64 z.st,.int .i64 z.fc,.slice D z.data.length c] 46)=w1 at*
  refine(HC w1).out.mono ?_
  rintro e w2 ⟨rfl,hb2⟩
  have L2:=Lib.hid (L1.out.trans (hb2.mono L1.out.size))
  clear hb2
  go_wp2_with fail
  go_ret
  exact⟨rfl,L2.out⟩
 ·have hn0:((n:Int)==0)=false:=beq_eq_false_iff_ne.2 (by omega)
  have e4:(z.st==4)=true:=by rw[h4];rfl
  clear h4
  go_enter Tryz.func188,Tryz.ntmps188
  go_wp2_with fail
  generalize w.alloc (.cells #[.int .i64 z.st,.int .i64 z.fc,.slice D z.data.length c] 46)=w1 at*
  refine(HC w1).out.mono ?_
  rintro e w2 ⟨rfl,hb2⟩
  have L2:=Lib.hid (L1.out.trans (hb2.mono L1.out.size))
  obtain⟨c0,c1,c2⟩:=(B1.out.below hb2).cells
  clear hb2
  go_wp2_with fail
  go_ret
  exact⟨rfl,L2.out⟩
 ·have hn0:((n:Int)==0)=false:=beq_eq_false_iff_ne.2 (by omega)
  have e4:(z.st==4)=false:=beq_eq_false_iff_ne.2 h4
  have hsub:IntKind.i64.wrap (most-(z.data.length:Int))=most-(z.data.length:Int):=by rw[IntKind.wrap_i64];omega
  have hd:decide (most-(z.data.length:Int)<(n:Int))=true:=by simp;omega
  clear h4
  go_enter Tryz.func188,Tryz.ntmps188
  go_wp2_with fail
  generalize w.alloc (.cells #[.int .i64 z.st,.int .i64 z.fc,.slice D z.data.length c] 46)=w1 at*
  refine(HC w1).out.mono ?_
  rintro e w2 ⟨rfl,hb2⟩
  have L2:=Lib.hid (L1.out.trans (hb2.mono L1.out.size))
  obtain⟨c0,c1,c2⟩:=(B1.out.below hb2).cells
  clear hb2
  go_wp2_with fail
  go_ret
  exact⟨rfl,L2.out⟩
 ·have hn0:((n:Int)==0)=false:=beq_eq_false_iff_ne.2 (by omega)
  have e4:(z.st==4)=false:=beq_eq_false_iff_ne.2 h4
  have hsub:IntKind.i64.wrap (most-(z.data.length:Int))=most-(z.data.length:Int):=by rw[IntKind.wrap_i64];omega
  have hd:decide (most-(z.data.length:Int)<(n:Int))=false:=by simp;omega
  clear h4
  go_enter Tryz.func188,Tryz.ntmps188
  go_wp2_with fail
  generalize w.alloc (.cells #[.int .i64 z.st,.int .i64 z.fc,.slice D z.data.length c] 46)=w1 at*
  refine(HC w1).out.mono ?_
  rintro e w2 ⟨rfl,hb2⟩
  have L2:=Lib.hid (L1.out.trans (hb2.mono L1.out.size))
  obtain⟨c0,c1,c2⟩:=(B1.out.below hb2).cells
  clear hb2
  go_wp2_with fail
  go_ret
  exact⟨rfl,L2.out⟩
end Zon
end
section
open Go.RowKit Mem
namespace Zon
def GaveZ (w:World) (z:Zn) (rest:List Value) (en:Ending) (w':World):Prop:=
 ∃D c,en= .returned (.tuple (zv z D c::rest).toArray)∧Owns cb 5 w.heap.size w' (.slice D z.data.length c) z.data.length z.data∧Below w.heap.size w w'
theorem GaveZ.nil {w w':World} {st fc:Int} {rest:List Value} (hb:Below w.heap.size w w'):GaveZ w ⟨st,fc,[]⟩ rest (.returned (.tuple (zv ⟨st,fc,[]⟩ none 0::rest).toArray)) w':=⟨none,0,rfl,Owns.nil _ _ _ _,hb⟩
theorem Box.store {w:World} {g:Nat} {z:Zn} {D:Option Addr} {c:Nat} (h:Box w g z D c) (z':Zn) (D':Option Addr) (c':Nat):
  Box (((w.setCell ⟨g,0,none⟩ (.int .i64 z'.st)).setCell ⟨g,1,none⟩ (.int .i64 z'.fc)).setCell ⟨g,2,none⟩ (.slice D' z'.data.length c')) g z' D' c':=
 Cells.set_ (Cells.set_ (Cells.set_ h 0 (.int .i64 z'.st)) 1 (.int .i64 z'.fc)) 2 (.slice D' z'.data.length c')
theorem Box.other3 {w:World} {g g':Nat} {z:Zn} {D:Option Addr} {c:Nat} (h:Box w g z D c) (hg:g'≠g) (x y v:Value):
  Box (((w.setCell ⟨g',0,none⟩ x).setCell ⟨g',1,none⟩ y).setCell ⟨g',2,none⟩ v) g z D c:=Cells.set_other (Cells.set_other (Cells.set_other h hg 0 x) hg 1 y) hg 2 v
theorem below3 {B g:Nat} {a w:World} (h:Below B a w) (hg:B≤g) (x y v:Value):Below B a (((w.setCell ⟨g,0,none⟩ x).setCell ⟨g,1,none⟩ y).setCell ⟨g,2,none⟩ v):=
 ((h.setCell (p:=⟨g,0,none⟩) hg x).setCell (p:=⟨g,1,none⟩) hg y).setCell (p:=⟨g,2,none⟩) hg v
theorem Owns.other {α:Type} {f:α→Value} {e:TypeId} {base:Nat} {w:World} {s:Value} {n:Nat} {l:List α} (h:Owns f e base w s n l) {p:Addr} (hp:p.block<base) (v:Value):Owns f e base (w.setCell p v) s n l:=
 ownsRow_setCell_below h hp v
theorem Owns.other3 {α:Type} {f:α→Value} {e:TypeId} {base g:Nat} {w:World} {s:Value} {n:Nat} {l:List α} (h:Owns f e base w s n l) (hg:g<base) (x y v:Value):
  Owns f e base (((w.setCell ⟨g,0,none⟩ x).setCell ⟨g,1,none⟩ y).setCell ⟨g,2,none⟩ v) s n l:=
 Owns.other (Owns.other (Owns.other h (p:=⟨g,0,none⟩) hg x) (p:=⟨g,1,none⟩) hg y) (p:=⟨g,2,none⟩) hg v
theorem row_two {w:World} {A B:Option Addr} {n c m d:Nat} {a b:List B8} {t:TypeId} {q:Nat} (hq:q=w.heap.size):
  Row Piece.val (w.alloc (.cells #[.slice A n c,.slice B m d] t)) (some ⟨q,0,none⟩) 2 2 [⟨A,n,c,a⟩,⟨B,m,d,b⟩]:=by
 subst hq
 refine⟨rfl,by omega,by omega,fun _=>⟨_,_,rfl,by simp,fun i x hi=> ?_⟩⟩
 rw[cell_of_row _ w.heap.size (0+i) _ _ (0,0) (heap_alloc_new w _)]
 match i,hi with
 |0,hi=>simp at hi;subst hi;rfl
 |1,hi=>simp at hi;subst hi;rfl
theorem append_bad {z:Zn} {D:Option Addr} {c:Nat} {most:Int} {B:Option Addr} {n d:Nat} {w:World} (hn:n≤140737488351232) {er:Int} (he:appErr z most n=er) (h0:er≠0):
  Calls Tryz.prog 158 #[zv z D c,.int .i64 most,.slice B n d] w (GaveZ w nilZ [.int .i64 0,.int .i64 er]):=by
 have HE:=fun w=>Lib.hid (appendError_any z D c most B n d hn w)
 rw[he] at HE
 have L1:=Lib.hid (((Below.refl w.heap.size w).alloc (Nat.le_refl _) (.cells #[.int .i64 z.st,.int .i64 z.fc,.slice D z.data.length c] 46)).alloc (by simp) (.cells #[.int .i64 0,.int .i64 0,.slice none 0 0] 46))
 have B2:Hid (Box ((w.alloc (.cells #[.int .i64 z.st,.int .i64 z.fc,.slice D z.data.length c] 46)).alloc (.cells #[.int .i64 0,.int .i64 0,.slice none 0 0] 46)) (w.heap.size+1) nilZ none 0):=heap_alloc2_new w _ _
 have hb:(er !=0)=true:=bne_iff_ne.2 h0
 clear he h0
 unfold zv at*
 go_enter Tryz.func158,Tryz.ntmps158
 go_wp2_with fail
 generalize(w.alloc (.cells #[.int .i64 z.st,.int .i64 z.fc,.slice D z.data.length c] 46)).alloc (.cells #[.int .i64 0,.int .i64 0,.slice none 0 0] 46)=w1 at*
 refine(HE w1).out.mono ?_
 rintro e w2 ⟨rfl,hb2⟩
 have L2:=Lib.hid (L1.out.trans (hb2.mono L1.out.size))
 have B3:=Lib.hid (B2.out.below hb2)
 obtain⟨c0,c1,c2⟩:=B3.out.cells
 obtain⟨f0,f1,f2⟩:=B3.out.frozen
 clear hb2
 go_wp2_with fail
 refine bodyPost_ret_by (results_zone_tmp2 rfl _ _ (w.heap.size+1) _ _ _ _ rfl (Box.store B3.out nilZ none 0) Tryz.underlying46 rfl (by kernel_rfl)) rfl ?_
 exact GaveZ.nil (below3 L2.out (by omega) _ _ _)
theorem append_ok {z:Zn} {D:Option Addr} {c:Nat} {most:Int} {b:List B8} {B:Option Addr} {d:Nat} {w:World} (h1:Row cb w D z.data.length c z.data) (h2:Row cb w B b.length d b) (he:appErr z most b.length=0):
  Calls Tryz.prog 158 #[zv z D c,.int .i64 most,.slice B b.length d] w (GaveZ w (appZ z most b) [.int .i64 z.len,.int .i64 0]):=by
 have HE:=fun w=>Lib.hid (appendError_any z D c most B b.length d h2.big w)
 rw[he] at HE
 have HS:=fun w=>stateBehind_any z.st (z.len+b.length) most w
 obtain⟨ho,-,-,hle⟩:=appErr_zero he
 obtain⟨p1,p2,-,-,-⟩:=ok_parts ho
 have H1:=Lib.hid h1
 have H2:=Lib.hid h2
 have hsum:z.data.length+b.length≤65536:=by unfold Zn.len at hle;omega
 have HCC:=fun(w:World) (q:Nat) (hq:q=w.heap.size) (h1:Row cb w D z.data.length c z.data) (h2:Row cb w B b.length d b)=>Lib.hid (concat_any (row_two (A:=D) (B:=B) (n:=z.data.length) (c:=c) (m:=b.length) (d:=d) (a:=z.data) (b:=b) (t:=37) hq)
  (by intro p hp;simp at hp;rcases hp with rfl|rfl;exact h1.alloc _;exact h2.alloc _) (by simp[total];omega))
 have hj:joined [⟨D,z.data.length,c,z.data⟩,⟨B,b.length,d,b⟩]=z.data++b:=by simp[joined]
 rw[hj] at HCC
 obtain⟨y,hy⟩:∃y,z.data++b=y:=⟨_,rfl⟩
 have hap:appZ z most b=⟨stB z.st (z.len+b.length) most,z.fc,y⟩:=by unfold appZ;rw[hy]
 rw[hy] at HCC
 rw[hap]
 have L1:=Lib.hid (((Below.refl w.heap.size w).alloc (Nat.le_refl _) (.cells #[.int .i64 z.st,.int .i64 z.fc,.slice D z.data.length c] 46)).alloc (by simp) (.cells #[.int .i64 0,.int .i64 0,.slice none 0 0] 46))
 have B1:Hid (Box ((w.alloc (.cells #[.int .i64 z.st,.int .i64 z.fc,.slice D z.data.length c] 46)).alloc (.cells #[.int .i64 0,.int .i64 0,.slice none 0 0] 46)) w.heap.size z D c):=heap_alloc2_old w _ _
 have B2:Hid (Box ((w.alloc (.cells #[.int .i64 z.st,.int .i64 z.fc,.slice D z.data.length c] 46)).alloc (.cells #[.int .i64 0,.int .i64 0,.slice none 0 0] 46)) (w.heap.size+1) nilZ none 0):=heap_alloc2_new w _ _
 have hwr:IntKind.i64.wrap ((z.data.length:Int)+(b.length:Int))=(z.data.length:Int)+(b.length:Int):=by rw[IntKind.wrap_i64];omega
 clear he ho p1 p2 hle h1 h2 hj hap hy
 unfold zv Zn.len at*
 go_enter Tryz.func158,Tryz.ntmps158
 go_wp2_with fail
 generalize(w.alloc (.cells #[.int .i64 z.st,.int .i64 z.fc,.slice D z.data.length c] 46)).alloc (.cells #[.int .i64 0,.int .i64 0,.slice none 0 0] 46)=w1 at*
 refine(HE w1).out.mono ?_
 rintro e w2 ⟨rfl,hb2⟩
 have L2:=Lib.hid (L1.out.trans (hb2.mono L1.out.size))
 have A2:=Lib.hid (B1.out.below hb2)
 have B3:=Lib.hid (B2.out.below hb2)
 have hc:=A2.out.cells
 obtain⟨c0,c1,c2⟩:=A2.out.cells
 clear hb2 B1 B2 L1 HE
 go_wp2_with fail
 clear c0 c1 c2
 have A3:Hid (Box w2.drew w.heap.size z D c):=A2
 have N3:Hid (Box w2.drew (w.heap.size+1) nilZ none 0):=B3
 have L3:Hid (Below w.heap.size w w2.drew):=L2.out.trans ((Below.refl _ w2).drew.mono L2.out.size)
 clear A2 B3 L2
 have hcell:=fun W (h:Box W w.heap.size z D c)=>h.cells
 refine wp_region_held_drew (S:=fun W=>W.cell? ⟨w.heap.size,0,none⟩=some (.int .i64 z.st)∧W.cell? ⟨w.heap.size,1,none⟩=some (.int .i64 z.fc)∧W.cell? ⟨w.heap.size,2,none⟩=some (.slice D z.data.length c))
  (by kernel_rfl) (hcell w2.drew A3.out) (fun hHeld=> ?_)
 refine Reg.tk 0 rfl ?_
 refine Reg.tk 1 rfl ?_
 refine Reg.tk 2 rfl ?_
 refine Reg.tk 3 rfl ?_
 refine Reg.tk 4 rfl ?_
 refine Reg.tk 5 rfl ?_
 refine Reg.tk 6 rfl ?_
 refine Reg.tk 8 rfl ?_
 refine Reg.tk 9 rfl ?_
 refine Reg.tk 10 rfl ?_
 refine Reg.tk 11 rfl ?_
 refine Reg.tk 12 rfl ?_
 refine Reg.tk 16 rfl ?_
 refine Reg.step2 7 13 rfl rfl (by kernel_rfl) (by rfl) (by rfl) (fun K hK=> ?_) (fun K hK=> ?_)
 ·go_simp
  refine(HS _).mono ?_
  rintro e wx ⟨rfl,hwx⟩
  subst hwx
  refine hK.out _ _ (hcell _ A3.out) (fun hHeld2=> ?_)
  clear hK K
  (try simp only[Act.put,List.setIfInBounds_toArray,List.set_cons_zero,List.set_cons_succ])
  refine Reg.step 13 rfl (by kernel_rfl) (by rfl) (fun K hK=> ?_)
  go_simp
  have A4:=Lib.hid (A3.out.alloc (.cells #[.slice D z.data.length c,.slice B b.length d] 37))
  refine hK.out _ _ (hcell _ A4.out) (fun hHeld3=> ?_)
  clear hK K
  (try simp only[Act.put,List.setIfInBounds_toArray,List.set_cons_zero,List.set_cons_succ])
  refine Reg.step 14 rfl (by kernel_rfl) (by rfl) (fun K hK=> ?_)
  go_simp
  refine(HCC w2.drew _ rfl (H1.out.below L3.out) (H2.out.below L3.out)).out.mono ?_
  rintro e w5 ⟨X,k,q,rfl,hX,hb5⟩
  obtain rfl:k=y.length:=hX.len.symm
  have b35:Below w2.drew.heap.size w2.drew w5:=((Below.refl _ w2.drew).alloc (Nat.le_refl _) _).trans (hb5.mono (by simp))
  have A5:=Lib.hid (A3.out.below b35)
  have N5:=Lib.hid (N3.out.below b35)
  have L5:=Lib.hid (L3.out.trans (b35.mono L3.out.size))
  have O5:=Lib.hid (hX.mono (base':=w2.drew.heap.size+1) (by simp))
  clear b35 hX hb5
  refine hK.out _ _ (hcell _ A5.out) (fun hHeld4=> ?_)
  clear hK K
  (try simp only[Act.put,List.setIfInBounds_toArray,List.set_cons_zero,List.set_cons_succ])
  refine Reg.tk 15 rfl ?_
  refine Reg.step 17 rfl (by kernel_rfl) (by rfl) (fun K hK=> ?_)
  obtain⟨f0,f1,f2⟩:=N5.out.frozen
  obtain⟨n0,n1,n2⟩:=N5.out.cells
  go_simp
  refine hK.out _ _ (hcell _ (A5.out.other3 (by omega) _ _ _)) (fun hHeld5=> ?_)
  clear hK K
  (try simp only[Act.put,List.setIfInBounds_toArray,List.set_cons_zero,List.set_cons_succ])
  refine Reg.tk 18 rfl ?_
  refine Reg.tk 19 rfl ?_
  refine wpAnyH_done (by kernel_rfl) ?_ _
  go_wp2_with fail
  refine bodyPost_ret_by (results_zone_tmp2 rfl _ _ (w.heap.size+1) _ _ _ _ rfl (Box.store N5.out ⟨stB z.st (z.len+b.length) most,z.fc,y⟩ X q) Tryz.underlying46 rfl (by kernel_rfl)) rfl ?_
  exact⟨X,q,rfl,(Owns.other3 (g:=w.heap.size+1) O5.out (by have:=N3.out.lt;omega) _ _ _).mono (by have:=N3.out.lt;omega),below3 L5.out (by omega) _ _ _⟩
 ·go_simp
  have A4:=Lib.hid (A3.out.alloc (.cells #[.slice D z.data.length c,.slice B b.length d] 37))
  refine hK.out _ _ (hcell _ A4.out) (fun hHeld3=> ?_)
  clear hK K
  (try simp only[Act.put,List.setIfInBounds_toArray,List.set_cons_zero,List.set_cons_succ])
  refine Reg.step 7 rfl (by kernel_rfl) (by rfl) (fun K hK=> ?_)
  go_simp
  refine(HS _).mono ?_
  rintro e wx ⟨rfl,hwx⟩
  subst hwx
  refine hK.out _ _ (hcell _ A4.out) (fun hHeld2=> ?_)
  clear hK K
  (try simp only[Act.put,List.setIfInBounds_toArray,List.set_cons_zero,List.set_cons_succ])
  refine Reg.step 14 rfl (by kernel_rfl) (by rfl) (fun K hK=> ?_)
  go_simp
  refine(HCC w2.drew _ rfl (H1.out.below L3.out) (H2.out.below L3.out)).out.mono ?_
  rintro e w5 ⟨X,k,q,rfl,hX,hb5⟩
  obtain rfl:k=y.length:=hX.len.symm
  have b35:Below w2.drew.heap.size w2.drew w5:=((Below.refl _ w2.drew).alloc (Nat.le_refl _) _).trans (hb5.mono (by simp))
  have A5:=Lib.hid (A3.out.below b35)
  have N5:=Lib.hid (N3.out.below b35)
  have L5:=Lib.hid (L3.out.trans (b35.mono L3.out.size))
  have O5:=Lib.hid (hX.mono (base':=w2.drew.heap.size+1) (by simp))
  clear b35 hX hb5
  refine hK.out _ _ (hcell _ A5.out) (fun hHeld4=> ?_)
  clear hK K
  (try simp only[Act.put,List.setIfInBounds_toArray,List.set_cons_zero,List.set_cons_succ])
  refine Reg.tk 15 rfl ?_
  refine Reg.step 17 rfl (by kernel_rfl) (by rfl) (fun K hK=> ?_)
  obtain⟨f0,f1,f2⟩:=N5.out.frozen
  obtain⟨n0,n1,n2⟩:=N5.out.cells
  go_simp
  refine hK.out _ _ (hcell _ (A5.out.other3 (by omega) _ _ _)) (fun hHeld5=> ?_)
  clear hK K
  (try simp only[Act.put,List.setIfInBounds_toArray,List.set_cons_zero,List.set_cons_succ])
  refine Reg.tk 18 rfl ?_
  refine Reg.tk 19 rfl ?_
  refine wpAnyH_done (by kernel_rfl) ?_ _
  go_wp2_with fail
  refine bodyPost_ret_by (results_zone_tmp2 rfl _ _ (w.heap.size+1) _ _ _ _ rfl (Box.store N5.out ⟨stB z.st (z.len+b.length) most,z.fc,y⟩ X q) Tryz.underlying46 rfl (by kernel_rfl)) rfl ?_
  exact⟨X,q,rfl,(Owns.other3 (g:=w.heap.size+1) O5.out (by have:=N3.out.lt;omega) _ _ _).mono (by have:=N3.out.lt;omega),below3 L5.out (by omega) _ _ _⟩
end Zon
end
section
open Go.RowKit Mem
namespace Zon
def GaveZ1 (w:World) (z:Zn) (en:Ending) (w':World):Prop:=
 ∃D c,en= .returned (zv z D c)∧Owns cb 5 w.heap.size w' (.slice D z.data.length c) z.data.length z.data∧Below w.heap.size w w'
theorem in_any {z:Zn} {D:Option Addr} {c:Nat} {w:World} (st:Int) (h:Row cb w D z.data.length c z.data):
  Calls Tryz.prog 193 #[zv z D c,.int .i64 st] w (GaveZ1 w (inZ z st)):=by
 have HC:=fun w (h:Row cb w D z.data.length c z.data)=>Lib.hid (clone_any h)
 have H1:=Lib.hid h
 have L1:=Lib.hid (((Below.refl w.heap.size w).alloc (Nat.le_refl _) (.cells #[.int .i64 z.st,.int .i64 z.fc,.slice D z.data.length c] 46)).alloc (by simp) (.cells #[.int .i64 0,.int .i64 0,.slice none 0 0] 46))
 have B1:Hid (Box ((w.alloc (.cells #[.int .i64 z.st,.int .i64 z.fc,.slice D z.data.length c] 46)).alloc (.cells #[.int .i64 0,.int .i64 0,.slice none 0 0] 46)) w.heap.size z D c):=heap_alloc2_old w _ _
 have N1:Hid (Box ((w.alloc (.cells #[.int .i64 z.st,.int .i64 z.fc,.slice D z.data.length c] 46)).alloc (.cells #[.int .i64 0,.int .i64 0,.slice none 0 0] 46)) (w.heap.size+1) nilZ none 0):=heap_alloc2_new w _ _
 have hcell:=fun W (h:Box W w.heap.size z D c)=>h.cells
 unfold zv inZ at*
 clear h
 go_enter Tryz.func193,Tryz.ntmps193
 go_wp2_with fail
 generalize(w.alloc (.cells #[.int .i64 z.st,.int .i64 z.fc,.slice D z.data.length c] 46)).alloc (.cells #[.int .i64 0,.int .i64 0,.slice none 0 0] 46)=w1 at*
 have A3:Hid (Box w1.drew w.heap.size z D c):=B1
 have N3:Hid (Box w1.drew (w.heap.size+1) nilZ none 0):=N1
 have L3:Hid (Below w.heap.size w w1.drew):=L1.out.trans ((Below.refl _ w1).drew.mono L1.out.size)
 clear B1 N1 L1
 refine wp_region_held_drew (S:=fun W=>W.cell? ⟨w.heap.size,0,none⟩=some (.int .i64 z.st)∧W.cell? ⟨w.heap.size,1,none⟩=some (.int .i64 z.fc)∧W.cell? ⟨w.heap.size,2,none⟩=some (.slice D z.data.length c))
  (by kernel_rfl) (hcell _ A3.out) (fun hHeld=> ?_)
 refine Reg.tk 0 rfl ?_
 refine Reg.tk 1 rfl ?_
 refine Reg.tk 2 rfl ?_
 refine Reg.tk 3 rfl ?_
 refine Reg.tk 4 rfl ?_
 refine Reg.step 5 rfl (by kernel_rfl) (by rfl) (fun K hK=> ?_)
 go_simp
 refine(HC w1.drew (H1.out.below L3.out)).out.mono ?_
 rintro e w5 ⟨X,k,q,rfl,hX,hb5⟩
 obtain rfl:k=z.data.length:=hX.len.symm
 have A5:=Lib.hid (A3.out.below hb5)
 have N5:=Lib.hid (N3.out.below hb5)
 have L5:=Lib.hid (L3.out.trans (hb5.mono L3.out.size))
 have O5:=Lib.hid hX
 clear hX hb5
 refine hK.out _ _ (hcell _ A5.out) (fun hHeld4=> ?_)
 clear hK K
 (try simp only[Act.put,List.setIfInBounds_toArray,List.set_cons_zero,List.set_cons_succ])
 refine Reg.tk 6 rfl ?_
 refine Reg.step 7 rfl (by kernel_rfl) (by rfl) (fun K hK=> ?_)
 obtain⟨f0,f1,f2⟩:=N5.out.frozen
 obtain⟨n0,n1,n2⟩:=N5.out.cells
 go_simp
 refine hK.out _ _ (hcell _ (A5.out.other3 (by omega) _ _ _)) (fun hHeld5=> ?_)
 clear hK K
 refine wpAnyH_done (by kernel_rfl) ?_ _
 go_wp2_with fail
 refine bodyPost_ret_by (results_cell_row rfl _ _ (w.heap.size+1) _ _ _ _ rfl (Box.store N5.out ⟨st,z.fc,z.data⟩ X q) Tryz.underlying46 rfl (by kernel_rfl)) rfl ?_
 exact⟨X,q,rfl,(Owns.other3 (g:=w.heap.size+1) O5.out (by have:=N3.out.lt;omega) _ _ _).mono (by have:=N3.out.lt;omega),below3 L5.out (by omega) _ _ _⟩
theorem finish_any {z:Zn} {D:Option Addr} {c:Nat} {w:World} (h:Row cb w D z.data.length c z.data):
  Calls Tryz.prog 165 #[zv z D c] w (GaveZ w (inZ z 4) [.int .i64 0]):=by
 have HC:=fun w (h:Row cb w D z.data.length c z.data)=>Lib.hid (in_any 4 h)
 have H1:=Lib.hid h
 have L1:=Lib.hid (((Below.refl w.heap.size w).alloc (Nat.le_refl _) (.cells #[.int .i64 z.st,.int .i64 z.fc,.slice D z.data.length c] 46)).alloc (by simp) (.cells #[.int .i64 0,.int .i64 0,.slice none 0 0] 46))
 have N1:Hid (Box ((w.alloc (.cells #[.int .i64 z.st,.int .i64 z.fc,.slice D z.data.length c] 46)).alloc (.cells #[.int .i64 0,.int .i64 0,.slice none 0 0] 46)) (w.heap.size+1) nilZ none 0):=heap_alloc2_new w _ _
 unfold zv inZ GaveZ1 at*
 clear h
 go_enter Tryz.func165,Tryz.ntmps165
 go_wp2_with fail
 generalize(w.alloc (.cells #[.int .i64 z.st,.int .i64 z.fc,.slice D z.data.length c] 46)).alloc (.cells #[.int .i64 0,.int .i64 0,.slice none 0 0] 46)=w1 at*
 refine(HC w1 (H1.out.below L1.out)).out.mono ?_
 rintro e w2 ⟨X,q,rfl,hX,hb2⟩
 unfold zv at*
 have N2:=Lib.hid (N1.out.below hb2)
 have L2:=Lib.hid (L1.out.trans (hb2.mono L1.out.size))
 have O2:=Lib.hid hX
 obtain⟨f0,f1,f2⟩:=N2.out.frozen
 obtain⟨n0,n1,n2⟩:=N2.out.cells
 clear hX hb2
 go_wp2_with fail
 refine bodyPost_ret_by (results_zone_tmp rfl _ _ (w.heap.size+1) _ _ _ _ rfl (Box.store N2.out ⟨4,z.fc,z.data⟩ X q) Tryz.underlying46 rfl (by kernel_rfl)) rfl ?_
 exact⟨X,q,rfl,(Owns.other3 (g:=w.heap.size+1) O2.out (by have:=N1.out.lt;omega) _ _ _).mono (by have:=N1.out.lt;omega),below3 L2.out (by omega) _ _ _⟩
theorem two_new (w:World) (z:Zn) (D:Option Addr) (c:Nat):
  Hid (Below w.heap.size w ((w.alloc (.cells #[.int .i64 z.st,.int .i64 z.fc,.slice D z.data.length c] 46)).alloc (.cells #[.int .i64 0,.int .i64 0,.slice none 0 0] 46)))∧Hid (Box ((w.alloc (.cells #[.int .i64 z.st,.int .i64 z.fc,.slice D z.data.length c] 46)).alloc (.cells #[.int .i64 0,.int .i64 0,.slice none 0 0] 46)) w.heap.size z D c)∧Hid (Box ((w.alloc (.cells #[.int .i64 z.st,.int .i64 z.fc,.slice D z.data.length c] 46)).alloc (.cells #[.int .i64 0,.int .i64 0,.slice none 0 0] 46)) (w.heap.size+1) nilZ none 0):=
 ⟨((Below.refl w.heap.size w).alloc (Nat.le_refl _) _).alloc (by simp) _,heap_alloc2_old w _ _,heap_alloc2_new w _ _⟩
def openErr (z:Zn) (most:Int):Int:=bif !okB z most then 1 else bif z.st==4 then 41 else 0
def openZ (z:Zn) (most:Int):Zn:=bif openErr z most==0 then inZ z 2 else nilZ
theorem open_any {z:Zn} {D:Option Addr} {c:Nat} {w:World} (most:Int) (h:Row cb w D z.data.length c z.data):
  Calls Tryz.prog 166 #[zv z D c,.int .i64 most] w (GaveZ w (openZ z most) [.int .i64 (openErr z most)]):=by
 have HC:=fun w (h:Row cb w D z.data.length c z.data)=>Lib.hid (in_any 2 h)
 have HK:=fun w=>Lib.hid (check_any z D c most w)
 have H1:=Lib.hid h
 obtain⟨L1,B1,N1⟩:=two_new w z D c
 unfold openZ openErr
 unfold zv inZ GaveZ1 errOf at*
 clear h
 rcases ho:okB z most
 ·rw[ho] at HK
  go_enter Tryz.func166,Tryz.ntmps166
  go_wp2_with fail
  generalize(w.alloc (.cells #[.int .i64 z.st,.int .i64 z.fc,.slice D z.data.length c] 46)).alloc (.cells #[.int .i64 0,.int .i64 0,.slice none 0 0] 46)=w1 at*
  refine(HK w1).out.mono ?_
  rintro e w2 ⟨rfl,hb2⟩
  have N2:=Lib.hid (N1.out.below hb2)
  have L2:=Lib.hid (L1.out.trans (hb2.mono L1.out.size))
  obtain⟨f0,f1,f2⟩:=N2.out.frozen
  obtain⟨n0,n1,n2⟩:=N2.out.cells
  clear hb2
  simp only[cond_false]
  go_wp2_with fail
  refine bodyPost_ret_by (results_zone_tmp rfl _ _ (w.heap.size+1) _ _ _ _ rfl (Box.store N2.out nilZ none 0) Tryz.underlying46 rfl (by kernel_rfl)) rfl ?_
  exact GaveZ.nil (below3 L2.out (by omega) _ _ _)
 ·rw[ho] at HK
  rcases e4:(z.st==4)
  ·go_enter Tryz.func166,Tryz.ntmps166
   go_wp2_with fail
   generalize(w.alloc (.cells #[.int .i64 z.st,.int .i64 z.fc,.slice D z.data.length c] 46)).alloc (.cells #[.int .i64 0,.int .i64 0,.slice none 0 0] 46)=w1 at*
   refine(HK w1).out.mono ?_
   rintro e w2 ⟨rfl,hb2⟩
   have B2:=Lib.hid (B1.out.below hb2)
   have N2:=Lib.hid (N1.out.below hb2)
   have L2:=Lib.hid (L1.out.trans (hb2.mono L1.out.size))
   obtain⟨c0,c1,c2⟩:=B2.out.cells
   clear hb2
   simp only[cond_true]
   go_wp2_with fail
   refine(HC w2 (H1.out.below L2.out)).out.mono ?_
   rintro e w3 ⟨X,q,rfl,hX,hb3⟩
   unfold zv at*
   have N3:=Lib.hid (N2.out.below hb3)
   have L3:=Lib.hid (L2.out.trans (hb3.mono L2.out.size))
   have O3:=Lib.hid hX
   obtain⟨f0,f1,f2⟩:=N3.out.frozen
   obtain⟨n0,n1,n2⟩:=N3.out.cells
   clear hX hb3 c0 c1 c2
   go_wp2_with fail
   refine bodyPost_ret_by (results_zone_tmp rfl _ _ (w.heap.size+1) _ _ _ _ rfl (Box.store N3.out ⟨2,z.fc,z.data⟩ X q) Tryz.underlying46 rfl (by kernel_rfl)) rfl ?_
   exact⟨X,q,rfl,(Owns.other3 (g:=w.heap.size+1) O3.out (by have:=N2.out.lt;omega) _ _ _).mono (by have:=N2.out.lt;omega),below3 L3.out (by omega) _ _ _⟩
  ·go_enter Tryz.func166,Tryz.ntmps166
   go_wp2_with fail
   generalize(w.alloc (.cells #[.int .i64 z.st,.int .i64 z.fc,.slice D z.data.length c] 46)).alloc (.cells #[.int .i64 0,.int .i64 0,.slice none 0 0] 46)=w1 at*
   refine(HK w1).out.mono ?_
   rintro e w2 ⟨rfl,hb2⟩
   have B2:=Lib.hid (B1.out.below hb2)
   have N2:=Lib.hid (N1.out.below hb2)
   have L2:=Lib.hid (L1.out.trans (hb2.mono L1.out.size))
   obtain⟨c0,c1,c2⟩:=B2.out.cells
   obtain⟨f0,f1,f2⟩:=N2.out.frozen
   obtain⟨n0,n1,n2⟩:=N2.out.cells
   clear hb2
   simp only[cond_true]
   go_wp2_with fail
   refine bodyPost_ret_by (results_zone_tmp rfl _ _ (w.heap.size+1) _ _ _ _ rfl (Box.store N2.out nilZ none 0) Tryz.underlying46 rfl (by kernel_rfl)) rfl ?_
   exact GaveZ.nil (below3 L2.out (by omega) _ _ _)
def closeErr (z:Zn):Int:=bif (z.st==0||z.st==4) then 41 else 0
def closeZ (z:Zn):Zn:=bif (z.st==0||z.st==4) then nilZ else bif z.data.length==0 then inZ z 0 else inZ z 3
theorem close_any {z:Zn} {D:Option Addr} {c:Nat} {w:World} (h:Row cb w D z.data.length c z.data):
  Calls Tryz.prog 167 #[zv z D c] w (GaveZ w (closeZ z) [.int .i64 (closeErr z)]):=by
 have HC:=fun(st:Int) w (h:Row cb w D z.data.length c z.data)=>Lib.hid (in_any st h)
 have H1:=Lib.hid h
 obtain⟨L1,B1,N1⟩:=two_new w z D c
 unfold closeZ closeErr
 unfold zv inZ GaveZ1 at*
 clear h
 have hlen:((z.data.length:Int)==0)=(z.data.length==0):=by
  rw[Bool.eq_iff_iff];simp
 rcases e0:(z.st==0)
 ·rcases e4:(z.st==4)
  ·rcases el:(z.data.length==0)
   ·rw[el] at hlen
    go_enter Tryz.func167,Tryz.ntmps167
    go_upto_region 1 with fail
    generalize(w.alloc (.cells #[.int .i64 z.st,.int .i64 z.fc,.slice D z.data.length c] 46)).alloc (.cells #[.int .i64 0,.int .i64 0,.slice none 0 0] 46)=w1 at*
    obtain⟨c0,c1,c2⟩:=B1.out.cells
    go_wp2_with fail
    refine(HC 3 w1 (H1.out.below L1.out)).out.mono ?_
    rintro e w3 ⟨X,q,rfl,hX,hb3⟩
    unfold zv at*
    have N3:=Lib.hid (N1.out.below hb3)
    have L3:=Lib.hid (L1.out.trans (hb3.mono L1.out.size))
    have O3:=Lib.hid hX
    obtain⟨f0,f1,f2⟩:=N3.out.frozen
    obtain⟨n0,n1,n2⟩:=N3.out.cells
    clear hX hb3 c0 c1 c2
    go_wp2_with fail
    refine bodyPost_ret_by (results_zone_tmp rfl _ _ (w.heap.size+1) _ _ _ _ rfl (Box.store N3.out ⟨3,z.fc,z.data⟩ X q) Tryz.underlying46 rfl (by kernel_rfl)) rfl ?_
    exact⟨X,q,rfl,(Owns.other3 (g:=w.heap.size+1) O3.out (by have:=N1.out.lt;omega) _ _ _).mono (by have:=N1.out.lt;omega),below3 L3.out (by omega) _ _ _⟩
   ·rw[el] at hlen
    go_enter Tryz.func167,Tryz.ntmps167
    go_upto_region 1 with fail
    generalize(w.alloc (.cells #[.int .i64 z.st,.int .i64 z.fc,.slice D z.data.length c] 46)).alloc (.cells #[.int .i64 0,.int .i64 0,.slice none 0 0] 46)=w1 at*
    obtain⟨c0,c1,c2⟩:=B1.out.cells
    go_wp2_with fail
    refine(HC 0 w1 (H1.out.below L1.out)).out.mono ?_
    rintro e w3 ⟨X,q,rfl,hX,hb3⟩
    unfold zv at*
    have N3:=Lib.hid (N1.out.below hb3)
    have L3:=Lib.hid (L1.out.trans (hb3.mono L1.out.size))
    have O3:=Lib.hid hX
    obtain⟨f0,f1,f2⟩:=N3.out.frozen
    obtain⟨n0,n1,n2⟩:=N3.out.cells
    clear hX hb3 c0 c1 c2
    go_wp2_with fail
    refine bodyPost_ret_by (results_zone_tmp rfl _ _ (w.heap.size+1) _ _ _ _ rfl (Box.store N3.out ⟨0,z.fc,z.data⟩ X q) Tryz.underlying46 rfl (by kernel_rfl)) rfl ?_
    exact⟨X,q,rfl,(Owns.other3 (g:=w.heap.size+1) O3.out (by have:=N1.out.lt;omega) _ _ _).mono (by have:=N1.out.lt;omega),below3 L3.out (by omega) _ _ _⟩
  ·go_enter Tryz.func167,Tryz.ntmps167
   go_upto_region 1 with fail
   generalize(w.alloc (.cells #[.int .i64 z.st,.int .i64 z.fc,.slice D z.data.length c] 46)).alloc (.cells #[.int .i64 0,.int .i64 0,.slice none 0 0] 46)=w1 at*
   obtain⟨c0,c1,c2⟩:=B1.out.cells
   obtain⟨f0,f1,f2⟩:=N1.out.frozen
   obtain⟨n0,n1,n2⟩:=N1.out.cells
   go_wp2_with fail
   refine bodyPost_ret_by (results_zone_tmp rfl _ _ (w.heap.size+1) _ _ _ _ rfl (Box.store N1.out nilZ none 0) Tryz.underlying46 rfl (by kernel_rfl)) rfl ?_
   exact GaveZ.nil (below3 L1.out (by omega) _ _ _)
 ·go_enter Tryz.func167,Tryz.ntmps167
  go_upto_region 1 with fail
  generalize(w.alloc (.cells #[.int .i64 z.st,.int .i64 z.fc,.slice D z.data.length c] 46)).alloc (.cells #[.int .i64 0,.int .i64 0,.slice none 0 0] 46)=w1 at*
  obtain⟨c0,c1,c2⟩:=B1.out.cells
  obtain⟨f0,f1,f2⟩:=N1.out.frozen
  obtain⟨n0,n1,n2⟩:=N1.out.cells
  go_wp2_with fail
  refine bodyPost_ret_by (results_zone_tmp rfl _ _ (w.heap.size+1) _ _ _ _ rfl (Box.store N1.out nilZ none 0) Tryz.underlying46 rfl (by kernel_rfl)) rfl ?_
  exact GaveZ.nil (below3 L1.out (by omega) _ _ _)
def readB (z:Zn) (off n:Int):Bool:= !decide (off<0)&&(!decide (n<0)&& !decide (z.len-off<n))
def readL (z:Zn) (off n:Int):List B8:=bif readB z off n then(z.data.drop off.toNat).take n.toNat else []
end Zon
end
section
open Go.RowKit Mem
namespace Zon
def tornErr (z:Zn) (most:Int) (b:List B8) (keep:Int):Int:=bif appErr z most b.length==0 then(bif (decide (keep<0)||decide ((b.length:Int)<keep)) then 1 else 0) else appErr z most b.length
def tornZ (z:Zn) (most:Int) (b:List B8) (keep:Int):Zn:=bif tornErr z most b keep==0 then(bif keep==0 then z else appZ z most (b.take keep.toNat)) else nilZ
theorem torn_bad {z:Zn} {D:Option Addr} {c:Nat} {most:Int} {n d:Nat} {B:Option Addr} {keep:Int} {w:World} {er:Int} (hn:n≤140737488351232) (he:appErr z most n=er) (h0:er≠0):
  Calls Tryz.prog 161 #[zv z D c,.int .i64 most,.slice B n d,.int .i64 keep] w (GaveZ w nilZ [.int .i64 er]):=by
 have HE:=fun w=>Lib.hid (appendError_any z D c most B n d hn w)
 rw[he] at HE
 obtain⟨L1,-,B2⟩:=two_new w z D c
 have hb:(er !=0)=true:=bne_iff_ne.2 h0
 clear he h0
 unfold zv at*
 go_enter Tryz.func161,Tryz.ntmps161
 go_wp2_with fail
 generalize(w.alloc (.cells #[.int .i64 z.st,.int .i64 z.fc,.slice D z.data.length c] 46)).alloc (.cells #[.int .i64 0,.int .i64 0,.slice none 0 0] 46)=w1 at*
 refine(HE w1).out.mono ?_
 rintro e w2 ⟨rfl,hb2⟩
 have L2:=Lib.hid (L1.out.trans (hb2.mono L1.out.size))
 have B3:=Lib.hid (B2.out.below hb2)
 obtain⟨c0,c1,c2⟩:=B3.out.cells
 obtain⟨f0,f1,f2⟩:=B3.out.frozen
 clear hb2
 go_wp2_with fail
 refine bodyPost_ret_by (results_zone_tmp rfl _ _ (w.heap.size+1) _ _ _ _ rfl (Box.store B3.out nilZ none 0) Tryz.underlying46 rfl (by kernel_rfl)) rfl ?_
 exact GaveZ.nil (below3 L2.out (by omega) _ _ _)
theorem torn_keep {z:Zn} {D:Option Addr} {c:Nat} {most:Int} {n d:Nat} {B:Option Addr} {keep:Int} {w:World} (hn:n≤140737488351232) (he:appErr z most n=0) (h0:keep<0∨(n:Int)<keep):
  Calls Tryz.prog 161 #[zv z D c,.int .i64 most,.slice B n d,.int .i64 keep] w (GaveZ w nilZ [.int .i64 1]):=by
 have HE:=fun w=>Lib.hid (appendError_any z D c most B n d hn w)
 rw[he] at HE
 obtain⟨L1,-,B2⟩:=two_new w z D c
 clear he
 unfold zv at*
 rcases e1:decide (keep<0)
 ·have e2:decide ((n:Int)<keep)=true:=decide_eq_true (by have:=of_decide_eq_false e1;omega)
  clear h0
  go_enter Tryz.func161,Tryz.ntmps161
  go_wp2_with fail
  generalize(w.alloc (.cells #[.int .i64 z.st,.int .i64 z.fc,.slice D z.data.length c] 46)).alloc (.cells #[.int .i64 0,.int .i64 0,.slice none 0 0] 46)=w1 at*
  refine(HE w1).out.mono ?_
  rintro e w2 ⟨rfl,hb2⟩
  have L2:=Lib.hid (L1.out.trans (hb2.mono L1.out.size))
  have B3:=Lib.hid (B2.out.below hb2)
  obtain⟨c0,c1,c2⟩:=B3.out.cells
  obtain⟨f0,f1,f2⟩:=B3.out.frozen
  clear hb2
  go_wp2_with fail
  refine bodyPost_ret_by (results_zone_tmp rfl _ _ (w.heap.size+1) _ _ _ _ rfl (Box.store B3.out nilZ none 0) Tryz.underlying46 rfl (by kernel_rfl)) rfl ?_
  exact GaveZ.nil (below3 L2.out (by omega) _ _ _)
 ·clear h0
  go_enter Tryz.func161,Tryz.ntmps161
  go_wp2_with fail
  generalize(w.alloc (.cells #[.int .i64 z.st,.int .i64 z.fc,.slice D z.data.length c] 46)).alloc (.cells #[.int .i64 0,.int .i64 0,.slice none 0 0] 46)=w1 at*
  refine(HE w1).out.mono ?_
  rintro e w2 ⟨rfl,hb2⟩
  have L2:=Lib.hid (L1.out.trans (hb2.mono L1.out.size))
  have B3:=Lib.hid (B2.out.below hb2)
  obtain⟨c0,c1,c2⟩:=B3.out.cells
  obtain⟨f0,f1,f2⟩:=B3.out.frozen
  clear hb2
  go_wp2_with fail
  refine bodyPost_ret_by (results_zone_tmp rfl _ _ (w.heap.size+1) _ _ _ _ rfl (Box.store B3.out nilZ none 0) Tryz.underlying46 rfl (by kernel_rfl)) rfl ?_
  exact GaveZ.nil (below3 L2.out (by omega) _ _ _)
theorem torn_none {z:Zn} {D:Option Addr} {c:Nat} {most:Int} {n d:Nat} {B:Option Addr} {w:World} (hn:n≤140737488351232) (he:appErr z most n=0) (h:Row cb w D z.data.length c z.data):
  Calls Tryz.prog 161 #[zv z D c,.int .i64 most,.slice B n d,.int .i64 0] w (GaveZ w z [.int .i64 0]):=by
 have HE:=fun w=>Lib.hid (appendError_any z D c most B n d hn w)
 rw[he] at HE
 have HI:=fun w (h:Row cb w D z.data.length c z.data)=>Lib.hid (in_any z.st h)
 have H1:=Lib.hid h
 obtain⟨L1,B1,N1⟩:=two_new w z D c
 clear he h
 unfold zv inZ GaveZ1 at*
 go_enter Tryz.func161,Tryz.ntmps161
 go_wp2_with fail
 generalize(w.alloc (.cells #[.int .i64 z.st,.int .i64 z.fc,.slice D z.data.length c] 46)).alloc (.cells #[.int .i64 0,.int .i64 0,.slice none 0 0] 46)=w1 at*
 refine(HE w1).out.mono ?_
 rintro e w2 ⟨rfl,hb2⟩
 have L2:=Lib.hid (L1.out.trans (hb2.mono L1.out.size))
 have B2:=Lib.hid (B1.out.below hb2)
 have N2:=Lib.hid (N1.out.below hb2)
 obtain⟨c0,c1,c2⟩:=B2.out.cells
 clear hb2
 go_wp2_with fail
 refine(HI w2 (H1.out.below L2.out)).out.mono ?_
 rintro e w3 ⟨X,q,rfl,hX,hb3⟩
 unfold zv at*
 have N3:=Lib.hid (N2.out.below hb3)
 have L3:=Lib.hid (L2.out.trans (hb3.mono L2.out.size))
 have O3:=Lib.hid hX
 obtain⟨f0,f1,f2⟩:=N3.out.frozen
 obtain⟨n0,n1,n2⟩:=N3.out.cells
 clear hX hb3 c0 c1 c2
 go_wp2_with fail
 refine bodyPost_ret_by (results_zone_tmp rfl _ _ (w.heap.size+1) _ _ _ _ rfl (Box.store N3.out z X q) Tryz.underlying46 rfl (by kernel_rfl)) rfl ?_
 exact⟨X,q,rfl,(Owns.other3 (g:=w.heap.size+1) O3.out (by have:=N2.out.lt;omega) _ _ _).mono (by have:=N2.out.lt;omega),below3 L3.out (by omega) _ _ _⟩
theorem torn_some {z:Zn} {D:Option Addr} {c:Nat} {most:Int} {b:List B8} {d:Nat} {B:Option Addr} {k:Nat} {w:World} (he:appErr z most b.length=0) (h1:Row cb w D z.data.length c z.data) (h2:Row cb w B b.length d b) (hk0:0<k) (hk:k≤b.length):
  Calls Tryz.prog 161 #[zv z D c,.int .i64 most,.slice B b.length d,.int .i64 (k:Int)] w (GaveZ w (appZ z most (b.take k)) [.int .i64 0]):=by
 have HE:=fun w=>Lib.hid (appendError_any z D c most B b.length d h2.big w)
 rw[he] at HE
 obtain⟨ho,hb0,h4,hle⟩:=appErr_zero he
 have htl:(b.take k).length=k:=by rw[List.length_take];omega
 have he2:appErr z most (b.take k).length=0:=appErr_of ho (by omega) h4 (by omega)
 have HA:=fun w (h1:Row cb w D z.data.length c z.data) (h2:Row cb w B k d (b.take k))=>Lib.hid (append_ok (b:=b.take k) (d:=d) h1 (by rw[htl];exact h2) he2)
 rw[htl] at HA
 have H1:=Lib.hid h1
 have H2:=Lib.hid (h2.head hk)
 have hsl:=run_head B b.length d k (by have:=h2.cap;omega)
 obtain⟨L1,B1,N1⟩:=two_new w z D c
 have hd1:decide ((k:Int)<0)=false:=by simp
 have hd2:decide (b.length<k)=false:=by simp;omega
 have hd3:((k:Int)==0)=false:=beq_eq_false_iff_ne.2 (by omega)
 clear he h1 h2 hb0 h4 hle he2 ho htl hk0 hk
 generalize appZ z most (b.take k)=y at*
 unfold GaveZ at*
 unfold zv Zn.len at*
 have hcell:=fun W (h:Box W w.heap.size z D c)=>h.cells
 go_enter Tryz.func161,Tryz.ntmps161
 go_wp2_with fail
 generalize(w.alloc (.cells #[.int .i64 z.st,.int .i64 z.fc,.slice D z.data.length c] 46)).alloc (.cells #[.int .i64 0,.int .i64 0,.slice none 0 0] 46)=w1 at*
 refine(HE w1).out.mono ?_
 rintro e w2 ⟨rfl,hb2⟩
 have A3:Hid (Box w2.drew w.heap.size z D c):=B1.out.below hb2.drew
 have N3:Hid (Box w2.drew (w.heap.size+1) nilZ none 0):=N1.out.below hb2.drew
 have L3:Hid (Below w.heap.size w w2.drew):=(L1.out.trans (hb2.mono L1.out.size)).drew
 clear hb2 B1 N1 L1 HE
 go_wp2_with fail
 refine wp_region_held_drew (S:=fun W=>W.cell? ⟨w.heap.size,0,none⟩=some (.int .i64 z.st)∧W.cell? ⟨w.heap.size,1,none⟩=some (.int .i64 z.fc)∧W.cell? ⟨w.heap.size,2,none⟩=some (.slice D z.data.length c))
  (by kernel_rfl) (hcell _ A3.out) (fun hHeld=> ?_)
 refine Reg.tk 0 rfl ?_
 refine Reg.tk 1 rfl ?_
 refine Reg.tk 2 rfl ?_
 refine Reg.tk 3 rfl ?_
 refine Reg.tk 4 rfl ?_
 refine Reg.step2 5 10 rfl rfl (by kernel_rfl) (by rfl) (by rfl) (fun K hK=> ?_) (fun K hK=> ?_)
 ·go_simp
  refine(HA w2.drew (H1.out.below L3.out) (H2.out.below L3.out)).out.mono ?_
  rintro e w5 ⟨X,q,rfl,hX,hb5⟩
  have A5:=Lib.hid (A3.out.below hb5)
  have N5:=Lib.hid (N3.out.below hb5)
  have L5:=Lib.hid (L3.out.trans (hb5.mono L3.out.size))
  have O5:=Lib.hid hX
  clear hX hb5
  refine hK.out _ _ (hcell _ A5.out) (fun hHeld4=> ?_)
  clear hK K
  (try simp only[Act.put,List.setIfInBounds_toArray,List.set_cons_zero,List.set_cons_succ])
  refine Reg.tk 6 rfl ?_
  refine Reg.tk 7 rfl ?_
  refine Reg.tk 8 rfl ?_
  refine Reg.tk 9 rfl ?_
  refine Reg.step 10 rfl (by kernel_rfl) (by rfl) (fun K hK=> ?_)
  go_simp
  have A6:=Lib.hid (A5.out.alloc (.cells #[.int .i64 0,.int .i64 0,.slice none 0 0] 46))
  refine hK.out _ _ (hcell _ A6.out) (fun hHeld5=> ?_)
  clear hK K
  (try simp only[Act.put,List.setIfInBounds_toArray,List.set_cons_zero,List.set_cons_succ])
  refine Reg.step 11 rfl (by kernel_rfl) (by rfl) (fun K hK=> ?_)
  go_simp
  have b58:Below w5.heap.size w5 (w5.alloc (.cells #[.int .i64 y.st,.int .i64 y.fc,.slice X y.data.length q] 46)):=(Below.refl _ w5).alloc (Nat.le_refl _) _
  have A8:=Lib.hid (A5.out.below b58)
  have N8:=Lib.hid (N5.out.below b58)
  have L8:=Lib.hid (L5.out.trans (b58.mono L5.out.size))
  have O8:=Lib.hid (O5.out.below b58)
  have Y8:=Lib.hid (Box.new w5 y X q)
  have HLT:Hid (w.heap.size+1<w2.drew.heap.size):=N3.out.lt
  have HLE:Hid (w.heap.size≤w2.drew.heap.size):=L3.out.size
  refine hK.out _ _ (hcell _ A8.out) (fun hHeld6=> ?_)
  clear hK K b58 A5 N5 L5 O5 A6 A3 N3 L3
  (try simp only[Act.put,List.setIfInBounds_toArray,List.set_cons_zero,List.set_cons_succ])
  generalize w5.heap.size=g at*
  generalize w5.alloc (.cells #[.int .i64 y.st,.int .i64 y.fc,.slice X y.data.length q] 46)=w8 at*
  refine Reg.tk 12 rfl ?_
  refine Reg.tk 13 rfl ?_
  refine wpAnyH_done (by kernel_rfl) ?_ _
  obtain⟨x0,x1,x2⟩:=Y8.out.cells
  obtain⟨f0,f1,f2⟩:=N8.out.frozen
  obtain⟨n0,n1,n2⟩:=N8.out.cells
  go_wp2_with fail
  refine bodyPost_ret_by (results_zone_tmp rfl _ _ (w.heap.size+1) _ _ _ _ rfl (Box.store N8.out y X q) Tryz.underlying46 rfl (by kernel_rfl)) rfl ?_
  exact⟨X,q,rfl,(Owns.other3 (g:=w.heap.size+1) O8.out HLT.out _ _ _).mono HLE.out,below3 L8.out (by omega) _ _ _⟩
 ·go_simp
  have b34:Below w2.drew.heap.size w2.drew (w2.alloc (.cells #[.int .i64 0,.int .i64 0,.slice none 0 0] 46)).drew:=((Below.refl _ w2.drew).alloc (Nat.le_refl _) (.cells #[.int .i64 0,.int .i64 0,.slice none 0 0] 46))
  have A4:=Lib.hid (A3.out.below b34)
  have N4:=Lib.hid (N3.out.below b34)
  have L4:=Lib.hid (L3.out.trans (b34.mono L3.out.size))
  have Y4:Hid (Box (w2.alloc (.cells #[.int .i64 0,.int .i64 0,.slice none 0 0] 46)).drew w2.heap.size nilZ none 0):=Box.new w2 nilZ none 0
  have HLT0:Hid (w.heap.size+1<w2.heap.size):=N3.out.lt
  have HLE0:Hid (w.heap.size≤w2.heap.size):=L3.out.size
  refine hK.out _ _ (hcell _ A4.out) (fun hHeld3=> ?_)
  clear hK K b34 A3 N3 L3
  (try simp only[Act.put,List.setIfInBounds_toArray,List.set_cons_zero,List.set_cons_succ])
  generalize w2.heap.size=g at*
  generalize(w2.alloc (.cells #[.int .i64 0,.int .i64 0,.slice none 0 0] 46)).drew=w4 at*
  refine Reg.step 5 rfl (by kernel_rfl) (by rfl) (fun K hK=> ?_)
  go_simp
  refine(HA w4 (H1.out.below L4.out) (H2.out.below L4.out)).out.mono ?_
  rintro e w5 ⟨X,q,rfl,hX,hb5⟩
  have A5:=Lib.hid (A4.out.below hb5)
  have N5:=Lib.hid (N4.out.below hb5)
  have Y5:=Lib.hid (Y4.out.below hb5)
  have L5:=Lib.hid (L4.out.trans (hb5.mono L4.out.size))
  have O5:=Lib.hid hX
  have HG:Hid (g<w4.heap.size):=Y4.out.lt
  have HLT:Hid (w.heap.size+1<w4.heap.size):=N4.out.lt
  have HLE:Hid (w.heap.size≤w4.heap.size):=L4.out.size
  clear hX hb5
  refine hK.out _ _ (hcell _ A5.out) (fun hHeld4=> ?_)
  clear hK K A4 N4 Y4 L4
  (try simp only[Act.put,List.setIfInBounds_toArray,List.set_cons_zero,List.set_cons_succ])
  refine Reg.tk 6 rfl ?_
  refine Reg.tk 7 rfl ?_
  refine Reg.tk 8 rfl ?_
  refine Reg.tk 9 rfl ?_
  refine Reg.step 11 rfl (by kernel_rfl) (by rfl) (fun K hK=> ?_)
  obtain⟨f0,f1,f2⟩:=Y5.out.frozen
  obtain⟨n0,n1,n2⟩:=Y5.out.cells
  go_simp
  have A8:=Lib.hid (A5.out.other3 (g':=g) (by have:=HLT0.out;omega) (.int .i64 y.st) (.int .i64 y.fc) (.slice X y.data.length q))
  have N8:=Lib.hid (N5.out.other3 (g':=g) (by have:=HLT0.out;omega) (.int .i64 y.st) (.int .i64 y.fc) (.slice X y.data.length q))
  have Y8:=Lib.hid (Box.store Y5.out y X q)
  have L8:=Lib.hid (below3 (g:=g) L5.out HLE0.out (.int .i64 y.st) (.int .i64 y.fc) (.slice X y.data.length q))
  have O8:=Lib.hid (Owns.other3 (g:=g) O5.out HG.out (.int .i64 y.st) (.int .i64 y.fc) (.slice X y.data.length q))
  refine hK.out _ _ (hcell _ A8.out) (fun hHeld6=> ?_)
  clear hK K f0 f1 f2 n0 n1 n2 A5 N5 Y5 L5 O5
  (try simp only[Act.put,List.setIfInBounds_toArray,List.set_cons_zero,List.set_cons_succ])
  generalize((w5.setCell ⟨g,0,none⟩ (.int .i64 y.st)).setCell ⟨g,1,none⟩ (.int .i64 y.fc)).setCell ⟨g,2,none⟩ (.slice X y.data.length q)=w8 at*
  refine Reg.tk 12 rfl ?_
  refine Reg.tk 13 rfl ?_
  refine wpAnyH_done (by kernel_rfl) ?_ _
  obtain⟨x0,x1,x2⟩:=Y8.out.cells
  obtain⟨f0,f1,f2⟩:=N8.out.frozen
  obtain⟨n0,n1,n2⟩:=N8.out.cells
  go_wp2_with fail
  refine bodyPost_ret_by (results_zone_tmp rfl _ _ (w.heap.size+1) _ _ _ _ rfl (Box.store N8.out y X q) Tryz.underlying46 rfl (by kernel_rfl)) rfl ?_
  exact⟨X,q,rfl,(Owns.other3 (g:=w.heap.size+1) O8.out HLT.out _ _ _).mono HLE.out,below3 L8.out (by omega) _ _ _⟩
end Zon
end
section
open Go.RowKit Mem
namespace Zon
structure Oth (e:TypeId) (w w':World):Prop where
 size:w.heap.size≤w'.heap.size
 block:∀k,k<w.heap.size→w'.heap[k]? =w.heap[k]? ∨∃cur z,w.heap[k]? =some (.cells cur e z)
theorem Oth.owns {α:Type} {f:α→Value} {e e':TypeId} {base:Nat} {w w':World} {s:Value} {n:Nat} {l:List α} (h:Owns f e' base w s n l) (ho:Oth e w w') (hne:e'≠e):Owns f e' base w' s n l:=by
 refine⟨h.1,?_⟩
 rcases h.2 with hn|⟨q,cap,cur,e1,hbg,hq,r⟩
 ·exact .inl hn
 ·refine .inr ⟨q,cap,cur,e1,hbg,?_,r⟩
  rcases ho.block q (Array.getElem?_eq_some_iff.1 hq).1 with h1|⟨cur',z,h1⟩
  ·exact h1.trans hq
  ·rw[hq] at h1
   injection h1 with h1
   injection h1 with _ h2
   exact absurd h2 hne
theorem wpList_append_wide {P:Program} {t e:TypeId} (ht:P.underlying t=some (.slice e)) {z:Value} {size bytes:Nat} (hinfo:(P.info? e).map (fun i=>(i.zero,i.size,i.bytes))=some (some z,size,bytes)) (hzs:z.cells.size=size) (hsz:0<size)
  {w:World} {ops:Array Oper} {rest:List Oper} {o:Oper} {a:Act} {Q:Exit→Act→World→Prop} (hgd:o.guard=none) (s x:Operand)
  (ho:o.op= .call {callee:= .builtin .append,args:= #[s,x],argTypes:= #[t,t]}) (hty:o.type=t)
  (base:Nat) (sv:Value) (n:Nat) (l:List Value) (hs:a.eval s=sv) (hown:w.ownsRow base e size sv n l) (A:Addr) (m c:Nat) (l':List Value) (hx:a.eval x= .slice (some A) m c) (hl:l'.length=m*size)
  (hc:∀j u,l'[j]? =some u→w.cell? (A.add j)=some u) (h1:∀u∈l',u.oneCell'=true)
  (hbig:n+m≤140737488351232) (hby:(n+m)*bytes≤140737488355328) (hbase:base≤w.heap.size)
  (hk:∀A' c' w',w'.ownsRow base e size (.slice A' (n+m) c') (n+m) (l++l')→Below base w w'→Oth e w w'→wpList P ops Q rest (a.put o.dst (.slice A' (n+m) c')) w'):
  wpList P ops Q (o::rest) a w:=by
 obtain⟨i,hi,hz0,hz1,hz2⟩:=info_parts hinfo
 refine wpList_plain hgd fun K hK=> ?_
 obtain⟨s',w',hrun,h2,h3,-,-⟩:=run_append_own_at (P:=P) w base t t e i _ size bytes ht hi hz0 hz1 hz2 hzs hsz sv n _ hown A m c l' hl hc h1 (by unfold maxLen;omega) hby hbase
 have hsl:∃A' c',s'= .slice A' (n+m) c':=by
  rcases h2.2 with⟨rfl,h0⟩|⟨q,cap,cur,rfl,-⟩
  ·exact⟨none,0,by rw[h0]⟩
  ·exact⟨_,_,rfl⟩
 obtain⟨A',c',rfl⟩:=hsl
 have hb:Below base w w':=(Below.refl base w).grown h3 hbase (fun k hk=>(World.ownsRow.lt hown k hk).1)
 have hoth:Oth e w w':=by
  refine⟨h3.size,fun k hk=> ?_⟩
  by_cases hkk:some k=sv.ownBlock
  ·rcases hown.2 with⟨rfl,-⟩|⟨q,cap,cur,rfl,-,hq,-⟩
   ·cases hkk
   ·have:k=q:=by simpa [Value.ownBlock] using hkk
    subst this
    exact .inr ⟨_,_,hq⟩
  ·exact .inl (h3.block k hk hkk)
 unfold Oper.wp execOp
 simp only[ho,hty,resolve,invoke,builtin,Sem.run_bind,Sem.run_pure,Result.andThen_ok,List.map_toArray,List.map_cons,List.map_nil,hs,hx,hrun]
 exact hK _ _ (hk A' c' w' h2 hb hoth)
end Zon
end
section
open Go.ChangeShapes Go.WideShapes Go.ChangeAt Go.RowKit Mem
namespace Zon
structure Zv where
 z:Zn
 D:Option Addr
 c:Nat
def cellsZ (x:Zv):List Value:= [.int .i64 x.z.st,.int .i64 x.z.fc,.slice x.D x.z.data.length x.c]
end Zon
namespace Args
open Zon
variable {H:Type} {enc:TypeId × Value→H} {W:World}
end Args
end
section
open Go.RowKit Mem
namespace Zon
def openB (z:Zn):Bool:=z.st==1||z.st==2
def actB (z:Zn):Bool:=openB z||z.st==3
def cntO (l:List Zv):Nat:=l.countP fun x=>openB x.z
def cntA (l:List Zv):Nat:=l.countP fun x=>actB x.z
theorem cntO_step {l:List Zv} {k:Nat} {x:Zv} (hx:l[k]? =some x):cntO (l.take (k+1))=cntO (l.take k)+(bif openB x.z then 1 else 0):=by
 unfold cntO
 rw[List.take_add_one,hx,Option.toList_some,List.countP_append,List.countP_cons,List.countP_nil]
 cases openB x.z<;>rfl
theorem cntA_step {l:List Zv} {k:Nat} {x:Zv} (hx:l[k]? =some x):cntA (l.take (k+1))=cntA (l.take k)+(bif actB x.z then 1 else 0):=by
 unfold cntA
 rw[List.take_add_one,hx,Option.toList_some,List.countP_append,List.countP_cons,List.countP_nil]
 cases actB x.z<;>rfl
theorem count_any {A:Option Addr} {n c:Nat} {xs:List Zv} {w:World} (h:RowS cellsZ 3 w A n c xs):
  Calls Tryz.prog 90 #[.slice A n c] w fun e w'=>e= .returned (.tuple #[.int .i64 (cntO xs:Int),.int .i64 (cntA xs:Int)])∧Below w.heap.size w w':=by
 have HR:=Lib.hid h
 have hbig:=h.big
 clear h
 go_enter Tryz.func90,Tryz.ntmps90
 go_wp2_with fail
 go_loopw [2,3,8] (fun x y i wr=>∃k p q:Nat,i= .int .i64 k∧x= .int .i64 p∧y= .int .i64 q∧k≤n∧p≤k∧q≤k∧Hid (cntO (xs.take k)=p∧cntA (xs.take k)=q∧Below w.heap.size w wr)) (fun _ _ i _=>n-(intOf i).toNat)
 case atStart=>exact⟨0,0,0,rfl,rfl,rfl,by omega,by omega,by omega,rfl,rfl,Below.refl _ _⟩
 case round=>
  obtain⟨k,p,q,rfl,rfl,rfl,hk,hp,hq,hH⟩:=hrel
  by_cases hlt:k<n
  ·obtain⟨x,hx⟩:=HR.out.get hlt
   obtain⟨b,o,rfl,hb,hc⟩:=HR.out.elem hx
   have hO:=Lib.hid (cntO_step hx)
   have hA:=Lib.hid (cntA_step hx)
   have c0:wr.cell? ⟨b,o+k*3,none⟩=some (.int .i64 x.z.st):=hc wr (hH.out.2.2.block b hb) 0 _ rfl
   have c1:wr.cell? ⟨b,o+k*3+1,none⟩=some (.int .i64 x.z.fc):=hc wr (hH.out.2.2.block b hb) 1 _ rfl
   have c2:wr.cell? ⟨b,o+k*3+2,none⟩=some (.slice x.D x.z.data.length x.c):=hc wr (hH.out.2.2.block b hb) 2 _ rfl
   have hk0:(0:Int)≤(k:Int):=by omega
   have hk1:(k:Int)<(n:Int):=by omega
   have LN:=Lib.hid (hH.out.2.2.alloc hH.out.2.2.size (.cells #[.int .i64 x.z.st,.int .i64 x.z.fc,.slice x.D x.z.data.length x.c] 46))
   clear hc hx
   rcases e1:(x.z.st==1)
   ·rcases e2:(x.z.st==2)
    ·rcases e3:(x.z.st==3)
     ·have hof:openB x.z=false:=by unfold openB;rw[e1,e2];rfl
      have haf:actB x.z=false:=by unfold actB;rw[hof,e3];rfl
      go_wp2_with fail
      go_roundw
      case rel=>exact⟨k+1,p,q,by go_num,rfl,rfl,by omega,by omega,by omega,by rw[hO.out,hof,hH.out.1];rfl,by rw[hA.out,haf,hH.out.2.1];rfl,LN.out⟩
      case measure=>simp[intOf];omega
     ·have hof:openB x.z=false:=by unfold openB;rw[e1,e2];rfl
      have haf:actB x.z=true:=by unfold actB;rw[hof,e3];rfl
      go_wp2_with fail
      go_roundw
      case rel=>exact⟨k+1,p,q+1,by go_num,rfl,by go_num,by omega,by omega,by omega,by rw[hO.out,hof,hH.out.1];rfl,by rw[hA.out,haf,hH.out.2.1];rfl,LN.out⟩
      case measure=>simp[intOf];omega
    ·have hof:openB x.z=true:=by unfold openB;rw[e1,e2];rfl
     have haf:actB x.z=true:=by unfold actB;rw[hof];rfl
     go_wp2_with fail
     go_roundw
     case rel=>exact⟨k+1,p+1,q+1,by go_num,by go_num,by go_num,by omega,by omega,by omega,by rw[hO.out,hof,hH.out.1];rfl,by rw[hA.out,haf,hH.out.2.1];rfl,LN.out⟩
     case measure=>simp[intOf];omega
   ·have hof:openB x.z=true:=by unfold openB;rw[e1];rfl
    have haf:actB x.z=true:=by unfold actB;rw[hof];rfl
    go_wp2_with fail
    go_roundw
    case rel=>exact⟨k+1,p+1,q+1,by go_num,by go_num,by go_num,by omega,by omega,by omega,by rw[hO.out,hof,hH.out.1];rfl,by rw[hA.out,haf,hH.out.2.1];rfl,LN.out⟩
    case measure=>simp[intOf];omega
  ·have hkn:xs.take k=xs:=List.take_of_length_le (by have:=HR.out.len;omega)
   have HK:=Lib.hid hkn
   clear hkn
   go_wp2_with fail
   go_ret2
   have hh:=hH.out
   rw[HK.out] at hh
   exact⟨by rw[hh.1,hh.2.1];rfl,hh.2.2⟩
theorem opened_any {A:Option Addr} {n c:Nat} {xs:List Zv} {w:World} (h:RowS cellsZ 3 w A n c xs):
  Calls Tryz.prog 56 #[.slice A n c] w fun e w'=>e= .returned (.int .i64 (cntO xs:Int))∧Below w.heap.size w w':=by
 have HC:=Lib.hid (count_any h)
 clear h
 go_enter Tryz.func56,Tryz.ntmps56
 go_wp2_with fail
 refine HC.out.mono ?_
 rintro e w2 ⟨rfl,hb2⟩
 have L2:=Lib.hid hb2
 clear hb2
 go_wp2_with fail
 go_ret
 exact⟨rfl,L2.out⟩
theorem active_any {A:Option Addr} {n c:Nat} {xs:List Zv} {w:World} (h:RowS cellsZ 3 w A n c xs):
  Calls Tryz.prog 57 #[.slice A n c] w fun e w'=>e= .returned (.int .i64 (cntA xs:Int))∧Below w.heap.size w w':=by
 have HC:=Lib.hid (count_any h)
 clear h
 go_enter Tryz.func57,Tryz.ntmps57
 go_wp2_with fail
 refine HC.out.mono ?_
 rintro e w2 ⟨rfl,hb2⟩
 have L2:=Lib.hid hb2
 clear hb2
 go_wp2_with fail
 go_ret
 exact⟨rfl,L2.out⟩
end Zon
end
section
open Go.RowKit Mem
namespace Zon
theorem torn_any {z:Zn} {D:Option Addr} {c:Nat} {most:Int} {b:List B8} {d:Nat} {B:Option Addr} {keep:Int} {w:World} (h1:Row cb w D z.data.length c z.data) (h2:Row cb w B b.length d b):
  Calls Tryz.prog 161 #[zv z D c,.int .i64 most,.slice B b.length d,.int .i64 keep] w (GaveZ w (tornZ z most b keep) [.int .i64 (tornErr z most b keep)]):=by
 unfold tornZ tornErr
 rcases e0:(appErr z most b.length==0)
 ·have hne:=beq_eq_false_iff_ne.1 e0
  simp only[cond_false,e0]
  exact torn_bad h2.big rfl hne
 ·have he:=beq_iff_eq.1 e0
  simp only[cond_true]
  rcases ek:(decide (keep<0)||decide ((b.length:Int)<keep))
  ·simp only[Bool.or_eq_false_iff,decide_eq_false_iff_not] at ek
   have e1:((0:Int)==0)=true:=rfl
   simp only[cond_false,e1,cond_true]
   rcases k0:(keep==0)
   ·obtain⟨k,rfl⟩:=Int.eq_ofNat_of_zero_le (show 0≤keep by omega)
    have:=beq_eq_false_iff_ne.1 k0
    exact torn_some he h1 h2 (by omega) (by omega)
   ·obtain rfl:=beq_iff_eq.1 k0
    exact torn_none h2.big he h1
  ·simp only[Bool.or_eq_true,decide_eq_true_eq] at ek
   exact torn_keep h2.big he ek
def appRes (z:Zn) (most:Int) (b:List B8):Zn:=bif appErr z most b.length==0 then appZ z most b else nilZ
def appAt (z:Zn) (most:Int) (n:Nat):Int:=bif appErr z most n==0 then z.len else 0
theorem append_any {z:Zn} {D:Option Addr} {c:Nat} {most:Int} {b:List B8} {d:Nat} {B:Option Addr} {w:World} (h1:Row cb w D z.data.length c z.data) (h2:Row cb w B b.length d b):
  Calls Tryz.prog 158 #[zv z D c,.int .i64 most,.slice B b.length d] w (GaveZ w (appRes z most b) [.int .i64 (appAt z most b.length),.int .i64 (appErr z most b.length)]):=by
 unfold appRes appAt
 rcases e0:(appErr z most b.length==0)
 ·exact append_bad h2.big rfl (beq_eq_false_iff_ne.1 e0)
 ·have he:=beq_iff_eq.1 e0
  rw[he]
  exact append_ok h1 h2 he
end Zon
end
section
open Go.RowKit Mem Zon
namespace Zns
structure Dv where
 cap:Int
 op:Int
 ac:Int
 zs:List Zn
structure Cm where
 d:Int
 zone:Int
 epoch:Int
 off:Int
 n:Int
 b:List B8
structure Dn where
 e:Int
 at_:Int
 b:List B8
def fail_ (e:Int):Dn:=⟨e,0,[]⟩
def cO (l:List Zn):Nat:=l.countP openB
def cA (l:List Zn):Nat:=l.countP actB
theorem cntO_map (xs:List Zv):cntO xs=cO (xs.map Zv.z):=by unfold cntO cO;rw[List.countP_map];rfl
theorem cntA_map (xs:List Zv):cntA xs=cA (xs.map Zv.z):=by unfold cntA cA;rw[List.countP_map];rfl
def boundsB (n most op ac:Int):Bool:=decide (1≤n)&&(decide (n≤64)&&(decide (1≤most)&&(decide (most≤65536)&&(decide (1≤op)&&(decide (op≤ac)&&decide (ac≤n))))))
def okD (d:Dv):Bool:=boundsB d.zs.length d.cap d.op d.ac&&(d.zs.all (fun z=>okB z d.cap)&&(!decide (d.op<cO d.zs)&& !decide (d.ac<cA d.zs)))
def firstI (zs:List Zn):Option Nat:=zs.findIdx? (fun z=>z.st==1)
def wayI (o:Option Nat):Int × Int:=match o with|none=>(-1,43)|some k=>((k:Int),0)
def toCl (op ac:Int) (zs:List Zn) (z:Zn):Int × Int:=
 bif openB z then(-1,0) else bif !actB z&&decide (ac≤(cA zs:Int)) then(-1,44) else bif decide ((cO zs:Int)<op) then(-1,0) else wayI (firstI zs)
def atI (zs:List Zn) (i:Nat):Zn:=zs.getD i nilZ
def closeAt (zs:List Zn) (o:Int):List Zn:=bif o== -1 then zs else zs.set o.toNat (closeZ (atI zs o.toNat))
def putO (op ac:Int) (zs:List Zn) (i:Nat) (z:Zn):List Zn × Int:=
 bif (toCl op ac zs (atI zs i)).2==0 then((closeAt zs (toCl op ac zs (atI zs i)).1).set i z,0) else(zs,(toCl op ac zs (atI zs i)).2)
def addP (cap op ac:Int) (zs:List Zn) (i:Nat) (c:Cm):List Zn × Dn:=
 bif appErr (atI zs i) cap c.b.length==0 then
  (bif (putO op ac zs i (appZ (atI zs i) cap c.b)).2==0 then((putO op ac zs i (appZ (atI zs i) cap c.b)).1,⟨0,(atI zs i).len,[]⟩) else(zs,fail_ (putO op ac zs i (appZ (atI zs i) cap c.b)).2))
 else(zs,fail_ (appErr (atI zs i) cap c.b.length))
def tearP (cap op ac:Int) (zs:List Zn) (i:Nat) (c:Cm):List Zn × Dn:=
 bif appErr (atI zs i) cap c.b.length==0 then
  (bif (toCl op ac zs (atI zs i)).2==0 then
   (bif tornErr (atI zs i) cap c.b c.n==0 then
    (bif c.n==0 then(zs,fail_ 0) else((putO op ac zs i (tornZ (atI zs i) cap c.b c.n)).1,fail_ (putO op ac zs i (tornZ (atI zs i) cap c.b c.n)).2))
   else(zs,fail_ (tornErr (atI zs i) cap c.b c.n)))
  else(zs,fail_ (toCl op ac zs (atI zs i)).2))
 else(zs,fail_ (appErr (atI zs i) cap c.b.length))
def readP (zs:List Zn) (i:Nat) (c:Cm):List Zn × Dn:=(zs,⟨errOf (readB (atI zs i) c.off c.n),0,readL (atI zs i) c.off c.n⟩)
def resetP (zs:List Zn) (i:Nat):List Zn × Dn:=(zs.set i ⟨0,(atI zs i).fc,[]⟩,fail_ 0)
def finishP (zs:List Zn) (i:Nat):List Zn × Dn:=(zs.set i (inZ (atI zs i) 4),fail_ 0)
def openP (cap op ac:Int) (zs:List Zn) (i:Nat):List Zn × Dn:=
 bif openErr (atI zs i) cap==0 then((putO op ac zs i (openZ (atI zs i) cap)).1,fail_ (putO op ac zs i (openZ (atI zs i) cap)).2) else(zs,fail_ (openErr (atI zs i) cap))
def closeP (zs:List Zn) (i:Nat):List Zn × Dn:=bif closeErr (atI zs i)==0 then(zs.set i (closeZ (atI zs i)),fail_ 0) else(zs,fail_ (closeErr (atI zs i)))
def fenceP (zs:List Zn) (i:Nat) (c:Cm):List Zn × Dn:=bif decide (c.epoch≤(atI zs i).fc) then(zs,fail_ 42) else(zs.set i ⟨(atI zs i).st,c.epoch,(atI zs i).data⟩,fail_ 0)
def actP (cap op ac:Int) (zs:List Zn) (i:Nat) (c:Cm):List Zn × Dn:=
 bif c.d==1 then addP cap op ac zs i c else bif c.d==8 then tearP cap op ac zs i c else bif c.d==2 then readP zs i c else bif c.d==3 then resetP zs i
 else bif c.d==4 then finishP zs i else bif c.d==5 then openP cap op ac zs i else bif c.d==6 then closeP zs i else fenceP zs i c
def knownB (d:Int):Bool:=decide (1≤d)&&decide (d≤8)
def stepP (cap op ac:Int) (zs:List Zn) (c:Cm):List Zn × Dn:=
 bif !knownB c.d||(decide (c.zone<0)||decide ((zs.length:Int)≤c.zone)) then(zs,fail_ 1)
 else bif !(c.d==7)&& !(c.epoch==(atI zs c.zone.toNat).fc) then(zs,fail_ 42) else actP cap op ac zs c.zone.toNat c
def doP (d:Dv) (c:Cm):Dv × Dn:=
 bif okD d then(⟨d.cap,d.op,d.ac,(stepP d.cap d.op d.ac d.zs c).1⟩,(stepP d.cap d.op d.ac d.zs c).2) else(d,fail_ 1)
end Zns
end
section
open Go.RowKit Mem
namespace Zon
def sameZ (x y:Zn):Bool:=(x.st==y.st)&&((x.fc==y.fc)&&decide (x.data=y.data))
end Zon
end
section
open Go.RowKit Mem
namespace Zon
structure Held (w:World) (g:Nat) (z:Zn) (D:Option Addr) (c:Nat):Prop where
 box:Box w g z D c
 row:Row cb w D z.data.length c z.data
section
variable {w w':World} {g:Nat} {z:Zn} {D:Option Addr} {c:Nat}
end
end Zon
end
section
open Go.RowKit Mem
namespace Zon
structure But (g:Nat) (w w':World):Prop where
 by_:w.grownBy w' (some g)
section
variable {g:Nat} {w w' w'':World}
theorem But.refl (g:Nat) (w:World):But g w w:=⟨⟨rfl,rfl,rfl,Nat.le_refl _,fun _ _ _=>rfl⟩⟩
theorem But.trans (h:But g w w') (k:But g w' w''):But g w w'':=
 ⟨⟨k.1.os.trans h.1.os,k.1.tape.trans h.1.tape,k.1.output.trans h.1.output,Nat.le_trans h.1.size k.1.size,fun i hi hn=>(k.1.block i (Nat.lt_of_lt_of_le hi h.1.size) hn).trans (h.1.block i hi hn)⟩⟩
theorem But.block (h:But g w w') {k:Nat} (hk:k<w.heap.size) (hn:k≠g):w'.heap[k]? =w.heap[k]? :=h.1.block k hk (fun e=>hn (by injection e))
theorem But.below (h:But g w w') {b:Nat} (hb:b≤w.heap.size) (hg:b≤g):Below b w w':=
 ⟨h.1.os,h.1.tape,h.1.output,h.1.size,fun _ hk=>h.block (Nat.lt_of_lt_of_le hk hb) (Nat.ne_of_lt (Nat.lt_of_lt_of_le hk hg))⟩
theorem Cells.but {k:Nat} {t:TypeId} {cs:Array Value} (hc:Cells w k t cs) (h:But g w w') (hn:k≠g):Cells w' k t cs:=(h.block (Cells.lt hc) hn).trans hc
theorem Box.but {k:Nat} {z:Zn} {D:Option Addr} {c:Nat} (hc:Box w k z D c) (h:But g w w') (hn:k≠g):Box w' k z D c:=Cells.but hc h hn
end
end Zon
end
end Go.Proofs.YtmkagjnkpjpjcaaGreat
