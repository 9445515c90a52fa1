/-
  SEVERAL TEXTS IN ONE FILE: PExtOver, PExtPut, PVmOffer, PVmCat, PExtSame, PExtGap, PVmLookS, PVmLookP, PVmLook.
-/
import Derived.Test.YtmkagjnkpjpjcaaGreatJ04
import Derived.Test.YtmkagjnkpjpjcaaGreatJ03
import Derived.Shelf.SlicesQ.Reverse
import Derived.Lib.AppendZeros
import Derived.Shelf.SlSortCmp.NoneTotal
import Derived.Test.YtmkagjnkpjpjcaaGreatJ02
namespace Go.Proofs.YtmkagjnkpjpjcaaGreat
set_option maxRecDepth 100000
set_option linter.unusedSimpArgs false
set_option linter.unusedVariables false
set_option maxHeartbeats 12800000
section
open Go.RowKit Mem
namespace Ext
def overT (l:List Ex):Int→List Ex→List Ex
 |_,[]=> []
 |f,x::u=>clips f x.lba l++x::overT l x.en u
theorem overT_app (l:List Ex) (f:Int) (a:List Ex) (x:Ex):overT l f (a++ [x])=overT l f a++(clips (endF f a) x.lba l++ [x]):=by
 induction a generalizing f with
 |nil=>rfl
 |cons y r ih=>rw[List.cons_append,overT,ih,overT,endF,List.append_assoc];rfl
theorem overF_T (l:List Ex) (f:Int) (u:List Ex):overF l f u=overT l f u++clips (endF f u) 1099511627776 l:=by
 induction u generalizing f with
 |nil=>rfl
 |cons y r ih=>rw[overF,ih,overT,endF,List.append_assoc];rfl
theorem endF_in {f:Int} {u:List Ex} (h:Ok f u) (hf:f≤1099511627776):f≤endF f u∧endF f u≤1099511627776:=by
 induction u generalizing f with
 |nil=>exact⟨Int.le_refl _,hf⟩
 |cons x r ih=>
  have h1:=ih h.2.2 (en_le h.1)
  have h2:=en_lt h.1
  have h3:=h.2.1
  exact⟨by show f≤endF x.en r;omega,h1.2⟩
theorem ok_take {f:Int} {u:List Ex} (h:Ok f u) (k:Nat):Ok f (u.take k):=by
 rw[←List.take_append_drop k u] at h
 exact(ok_split h).1
theorem overT_len {l u:List Ex} (hl:Ok 0 l) (hu:Ok 0 u) (k:Nat):(overT l 0 (u.take k)).length≤l.length+2*u.length:=by
 have h1:=overE_len hl (ok_take hu k)
 unfold overE at h1
 rw[overF_T,List.length_append] at h1
 have h2:(u.take k).length≤u.length:=by rw[List.length_take];omega
 omega
def GaveR (w:World) (r:List Ex) (en:Ending) (w':World):Prop:=(∃B m d,en= .returned (.slice B m d)∧OwnsL w.heap.size w' (.slice B m d) m r)∧Below w.heap.size w w'
theorem over_any {A B:Option Addr} {n c m d:Nat} {l u:List Ex} {w:World} (hA:RowL w A n c l) (hB:RowL w B m d u) (hl:Ok 0 l) (hu:Ok 0 u) (hn:n≤1000000) (hm:m≤1000000):
  Calls Tryz.prog 172 #[.slice A n c,.slice B m d] w (GaveR w (overE l u)):=by
 have HA:=Lib.hid hA
 have HB:=Lib.hid hB
 have HL:=Lib.hid hl
 have HU:=Lib.hid hu
 have hbig:=hA.big
 have hbig2:=hB.big
 have hlen:=Lib.hid hA.len
 have hlen2:=Lib.hid hB.len
 have hwm:IntKind.i64.wrap (2*(m:Int))=2*(m:Int):=wrap_small (by omega) (by omega)
 have hws:(n:Int)+2*(m:Int)=((n+2*m:Nat):Int):=by omega
 have hww:IntKind.i64.wrap ((n+2*m:Nat):Int)=((n+2*m:Nat):Int):=wrap_small (by omega) (by omega)
 obtain⟨S,hS⟩:∃S,n+2*m=S:=⟨_,rfl⟩
 rw[hS] at hws hww
 have hmk:=fun w=>run_make_ext w S (by omega)
 have HMO:=Lib.hid (made_own w S (by omega))
 have HMB:Hid (Below w.heap.size w (w.alloc (.cells (madeCells #[.int .i64 0,.int .i64 0,.int .i64 0,.int .i64 0,.int .i64 0] (S*5)) 60))):=(Below.refl _ w).alloc (Nat.le_refl _) _
 clear hA hB hl hu hS
 go_enter Tryz.func172,Tryz.ntmps172
 go_wp2_with fail
 clear hmk hwm hws hww
 go_loopw [5,6,8,18] (fun s f _ i wr=>∃(k:Nat) (X:Option Addr) (j d2:Nat) (z:Int),i= .int .i64 k∧s= .slice X j d2∧f= .int .i64 z∧k≤m∧Hid (Below w.heap.size w wr∧endF 0 (u.take k)=z∧OwnsL w.heap.size wr (.slice X j d2) j (overT l 0 (u.take k)))) (fun _ _ _ i _=>m-(intOf i).toNat)
 case atStart=>exact⟨0,some ⟨w.heap.size,0,none⟩,0,S,0,rfl,rfl,rfl,by omega,HMB.out,rfl,HMO.out⟩
 case round=>
  obtain⟨k,X,j,d2,z,rfl,rfl,rfl,hk,hH⟩:=hrel
  have HZ:Hid (0≤z∧z≤1099511627776):=by
   have:=endF_in (ok_take HU.out k) (by omega)
   rw[hH.out.2.1] at this
   exact this
  have HJ:Hid (j≤3000000):=by have h1:=hH.out.2.2.2;have h2:=overT_len HL.out HU.out k;have:=hlen.out;have:=hlen2.out;show _≤_;omega
  by_cases hlt:k<m
  ·obtain⟨x,hx⟩:=HB.out.get hlt
   obtain⟨b,o,hA,e0,e1,e2,e3,e4⟩:=RowS.ext_at (HB.out.below hH.out.1) hx
   subst hA
   have HMX:=Lib.hid (HU.out.at_ hx).1
   have hk0:(0:Int)≤(k:Int):=by omega
   have hkn:(k:Int)<(m:Int):=by omega
   have HT:Hid (overT l 0 (u.take (k+1))=overT l 0 (u.take k)++(clips z x.lba l++ [x])):=by
    show _=_
    rw[take_snoc hx,overT_app,hH.out.2.1]
   have HEN:Hid (endF 0 (u.take (k+1))=x.en):=by show _=_;rw[take_snoc hx,endF_app];rfl
   have HLEN:Hid ((overT l 0 (u.take k)++clips z x.lba l).length≤3000000):=by
    have h1:=overT_len HL.out HU.out (k+1)
    rw[HT.out,←List.append_assoc,List.length_append,List.length_singleton] at h1
    have:=hlen.out
    have:=hlen2.out
    show _≤_
    omega
   have HADD:=fun W (hO:OwnsL w.heap.size W (.slice X j d2) j (overT l 0 (u.take k))) (hW:Below w.heap.size w W)=>Lib.hid (addParts_any z x.lba hO hW.size (fun W2 h2=>HA.out.below (hW.trans h2)) HL.out (by have:=HJ.out;omega) (by omega) HZ.out.1 HZ.out.2 HMX.out.1 (by have:=en_lt HMX.out;have:=en_le HMX.out;omega))
   have HE:=fun w=>Lib.hid (end_any x HMX.out w)
   clear hx
   generalize overT l 0 (u.take k)=OUT at*
   have A1:Hid (Below wr.heap.size wr (wr.alloc (.cells #[.int .i64 x.lba,.int .i64 x.n,.int .i64 x.ver,.int .i64 x.zone,.int .i64 x.off] 60))):=(Below.refl _ wr).alloc (Nat.le_refl _) _
   have B1:Hid (LBox (wr.alloc (.cells #[.int .i64 x.lba,.int .i64 x.n,.int .i64 x.ver,.int .i64 x.zone,.int .i64 x.off] 60)) wr.heap.size x):=Cells.new _ _ _
   obtain⟨n0,n1,n2,n3,n4⟩:=LBox.cells B1.out
   go_upto_region 6 with fail
   generalize wr.alloc (.cells #[.int .i64 x.lba,.int .i64 x.n,.int .i64 x.ver,.int .i64 x.zone,.int .i64 x.off] 60)=w1 at*
   clear e0 e1 e2 e3 e4
   have L1:=Lib.hid (hH.out.1.trans (A1.out.mono hH.out.1.size))
   have L2:=Lib.hid L1.out.drew
   have X2:Hid (LBox w1.drew wr.heap.size x):=Cells.drew B1.out
   have O2:=Lib.hid (OwnsL.drew (OwnsL.below hH.out.2.2 A1.out))
   have NE2:Hid ((Value.slice X j d2).ownBlock≠some wr.heap.size):=fun e=>by have h1:=(OwnsL.lt hH.out.2.2 _ e).2;omega
   refine wp_region_held_drew (S:=fun W=>W.cell? ⟨wr.heap.size,0,none⟩=some (.int .i64 x.lba)∧W.cell? ⟨wr.heap.size,1,none⟩=some (.int .i64 x.n)∧W.cell? ⟨wr.heap.size,2,none⟩=some (.int .i64 x.ver)∧W.cell? ⟨wr.heap.size,3,none⟩=some (.int .i64 x.zone)∧W.cell? ⟨wr.heap.size,4,none⟩=some (.int .i64 x.off)) (by kernel_rfl) (LBox.cells X2.out) (fun hHeld=> ?_)
   generalize w1.drew=w2 at*
   clear n0 n1 n2 n3 n4 A1 B1 L1
   refine Reg.tk 0 rfl ?_
   refine Reg.tk 1 rfl ?_
   refine Reg.tk 2 rfl ?_
   refine Reg.tk 3 rfl ?_
   refine Reg.tk 4 rfl ?_
   refine Reg.tk 6 rfl ?_
   refine Reg.step2 5 7 rfl rfl (by kernel_rfl) (by rfl) (by rfl) (fun K hK=> ?_) (fun K hK=> ?_)
   ·skip
    go_simp
    refine(HADD w2 O2.out L2.out).out.mono ?_
    rintro e' w3 ⟨⟨Y,q,p,rfl,hO,hown⟩,hb,hfr⟩
    have L3:=Lib.hid (L2.out.trans hb)
    have X3:Hid (LBox w3 wr.heap.size x):=(hfr _ (Cells.lt X2.out) NE2.out).trans X2.out
    have O3:=Lib.hid hO
    have NE3:Hid ((Value.slice Y q p).ownBlock≠some wr.heap.size):=fun h=>by
     rcases hown _ h with h1|h1
     ·exact NE2.out h1
     ·have:=Cells.lt X2.out;omega
    have HQ:Hid (q≤3000000):=by have h1:=O3.out.2;have h2:=HLEN.out;show _≤_;omega
    clear hO hown hb hfr
    refine hK.out _ _ (LBox.cells X3.out) (fun hHeld3=> ?_)
    clear hK K
    (try simp only[Act.put,List.setIfInBounds_toArray,List.set_cons_zero,List.set_cons_succ])
    refine Reg.step 7 rfl (by kernel_rfl) (by rfl) (fun K hK=> ?_)
    go_simp
    have A4:Hid (Below w3.heap.size w3 (w3.alloc (.cells #[.int .i64 x.lba,.int .i64 x.n,.int .i64 x.ver,.int .i64 x.zone,.int .i64 x.off] 60))):=(Below.refl _ _).alloc (Nat.le_refl _) _
    have L4:=Lib.hid (L3.out.trans (A4.out.mono L3.out.size))
    have X4:Hid (LBox (w3.alloc (.cells #[.int .i64 x.lba,.int .i64 x.n,.int .i64 x.ver,.int .i64 x.zone,.int .i64 x.off] 60)) wr.heap.size x):=Cells.alloc X3.out _
    have O4:=Lib.hid (OwnsL.alloc O3.out (.cells #[.int .i64 x.lba,.int .i64 x.n,.int .i64 x.ver,.int .i64 x.zone,.int .i64 x.off] 60))
    have N4:Hid (LBox (w3.alloc (.cells #[.int .i64 x.lba,.int .i64 x.n,.int .i64 x.ver,.int .i64 x.zone,.int .i64 x.off] 60)) w3.heap.size x):=Cells.new _ _ _
    have NE4:=NE3
    have NB:Hid ((Value.slice Y q p).ownBlock≠some w3.heap.size):=fun e=>by have h1:=(OwnsL.lt O3.out _ e).2;omega
    clear A4
    refine hK.out _ _ (LBox.cells X4.out) (fun hHeld4=> ?_)
    clear hK K
    (try simp only[Act.put,List.setIfInBounds_toArray,List.set_cons_zero,List.set_cons_succ])
    generalize w3.alloc (.cells #[.int .i64 x.lba,.int .i64 x.n,.int .i64 x.ver,.int .i64 x.zone,.int .i64 x.off] 60)=w4 at*
    refine Reg.step 8 rfl (by kernel_rfl) (by rfl) (fun K hK=> ?_)
    refine wp_append_l1 (.tmp 27) (.tmp 29) rfl rfl w.heap.size (.slice Y q p) q _ rfl O4.out (some ⟨w3.heap.size,0,none⟩) 1 1 [x] rfl (RowS.one N4.out) (by have:=HQ.out;omega) L4.out.size ?_
    intro A' c' w5 h1 h2 h3
    have O5:=Lib.hid h1
    have L5:=Lib.hid (L4.out.trans (below_row O4.out h2 L4.out.size))
    have X5:Hid (LBox w5 wr.heap.size x):=Cells.grown X4.out h2 (fun e=>NE4.out e)
    clear h1 h2 h3
    refine hK.out _ _ (LBox.cells X5.out) (fun hHeld5=> ?_)
    clear hK K
    (try simp only[Act.put,List.setIfInBounds_toArray,List.set_cons_zero,List.set_cons_succ])
    refine Reg.tk 9 rfl ?_
    refine wpAnyH_done (by kernel_rfl) ?_ _
    obtain⟨n0,n1,n2,n3,n4⟩:=hHeld5
    go_wp2_with (go_at_call 67;refine(HE _).out.mono ?_;rintro e' w9 ⟨rfl,hb⟩;have L9:=Lib.hid (L5.out.trans (hb.mono L5.out.size));have O9:=Lib.hid (OwnsL.below O5.out hb);clear hb)
    go_roundw
    case rel=>exact⟨k+1,A',q+1,c',x.en,by go_num,rfl,rfl,by omega,L9.out,HEN.out,by rw[HT.out,←List.append_assoc];exact O9.out⟩
    case measure=>simp[intOf];omega
   ·skip
    go_simp
    have A3:Hid (Below w2.heap.size w2 (w2.alloc (.cells #[.int .i64 x.lba,.int .i64 x.n,.int .i64 x.ver,.int .i64 x.zone,.int .i64 x.off] 60))):=(Below.refl _ _).alloc (Nat.le_refl _) _
    have L3:=Lib.hid (L2.out.trans (A3.out.mono L2.out.size))
    have X3:Hid (LBox (w2.alloc (.cells #[.int .i64 x.lba,.int .i64 x.n,.int .i64 x.ver,.int .i64 x.zone,.int .i64 x.off] 60)) wr.heap.size x):=Cells.alloc X2.out _
    have O3:=Lib.hid (OwnsL.alloc O2.out (.cells #[.int .i64 x.lba,.int .i64 x.n,.int .i64 x.ver,.int .i64 x.zone,.int .i64 x.off] 60))
    have N3:Hid (LBox (w2.alloc (.cells #[.int .i64 x.lba,.int .i64 x.n,.int .i64 x.ver,.int .i64 x.zone,.int .i64 x.off] 60)) w2.heap.size x):=Cells.new _ _ _
    have NE3:=NE2
    have NB:Hid ((Value.slice X j d2).ownBlock≠some w2.heap.size):=fun e=>by have h1:=(OwnsL.lt O2.out _ e).2;omega
    clear A3
    refine hK.out _ _ (LBox.cells X3.out) (fun hHeld3=> ?_)
    clear hK K
    (try simp only[Act.put,List.setIfInBounds_toArray,List.set_cons_zero,List.set_cons_succ])
    generalize w2.alloc (.cells #[.int .i64 x.lba,.int .i64 x.n,.int .i64 x.ver,.int .i64 x.zone,.int .i64 x.off] 60)=w3 at*
    refine Reg.step 5 rfl (by kernel_rfl) (by rfl) (fun K hK=> ?_)
    go_simp
    refine(HADD w3 O3.out L3.out).out.mono ?_
    rintro e' w4 ⟨⟨Y,q,p,rfl,hO,hown⟩,hb,hfr⟩
    have L4:=Lib.hid (L3.out.trans hb)
    have X4:Hid (LBox w4 wr.heap.size x):=(hfr _ (Cells.lt X3.out) NE3.out).trans X3.out
    have O4:=Lib.hid hO
    have NE4:Hid ((Value.slice Y q p).ownBlock≠some wr.heap.size):=fun h=>by
     rcases hown _ h with h1|h1
     ·exact NE3.out h1
     ·have:=Cells.lt X3.out;omega
    have N4:Hid (LBox w4 w2.heap.size x):=(hfr _ (Cells.lt N3.out) NB.out).trans N3.out
    have HQ:Hid (q≤3000000):=by have h1:=O4.out.2;have h2:=HLEN.out;show _≤_;omega
    clear hO hown hb hfr
    refine hK.out _ _ (LBox.cells X4.out) (fun hHeld4=> ?_)
    clear hK K
    (try simp only[Act.put,List.setIfInBounds_toArray,List.set_cons_zero,List.set_cons_succ])
    refine Reg.step 8 rfl (by kernel_rfl) (by rfl) (fun K hK=> ?_)
    refine wp_append_l1 (.tmp 27) (.tmp 29) rfl rfl w.heap.size (.slice Y q p) q _ rfl O4.out (some ⟨w2.heap.size,0,none⟩) 1 1 [x] rfl (RowS.one N4.out) (by have:=HQ.out;omega) L4.out.size ?_
    intro A' c' w5 h1 h2 h3
    have O5:=Lib.hid h1
    have L5:=Lib.hid (L4.out.trans (below_row O4.out h2 L4.out.size))
    have X5:Hid (LBox w5 wr.heap.size x):=Cells.grown X4.out h2 (fun e=>NE4.out e)
    clear h1 h2 h3
    refine hK.out _ _ (LBox.cells X5.out) (fun hHeld5=> ?_)
    clear hK K
    (try simp only[Act.put,List.setIfInBounds_toArray,List.set_cons_zero,List.set_cons_succ])
    refine Reg.tk 9 rfl ?_
    refine wpAnyH_done (by kernel_rfl) ?_ _
    obtain⟨n0,n1,n2,n3,n4⟩:=hHeld5
    go_wp2_with (go_at_call 67;refine(HE _).out.mono ?_;rintro e' w9 ⟨rfl,hb⟩;have L9:=Lib.hid (L5.out.trans (hb.mono L5.out.size));have O9:=Lib.hid (OwnsL.below O5.out hb);clear hb)
    go_roundw
    case rel=>exact⟨k+1,A',q+1,c',x.en,by go_num,rfl,rfl,by omega,L9.out,HEN.out,by rw[HT.out,←List.append_assoc];exact O9.out⟩
    case measure=>simp[intOf];omega
  ·have hkn:u.take k=u:=List.take_of_length_le (by have:=hlen2.out;omega)
   have HK:=Lib.hid hkn
   clear hkn
   have HADD:=Lib.hid (addParts_any z 1099511627776 hH.out.2.2 hH.out.1.size (fun W2 h2=>HA.out.below (hH.out.1.trans h2)) HL.out (by have:=HJ.out;omega) (by omega) HZ.out.1 HZ.out.2 (by omega) (by omega))
   go_wp2_with (go_at_call 82;refine HADD.out.mono ?_;rintro e' w9 ⟨⟨Y,q,p,rfl,hO,-⟩,hb,-⟩;have L9:=Lib.hid (hH.out.1.trans hb);have O9:=Lib.hid hO;clear hO hb)
   go_ret
   refine⟨⟨_,_,_,rfl,?_⟩,L9.out⟩
   have h:=O9.out
   rw[HK.out] at h
   unfold overE
   rw[overF_T]
   have h2:=hH.out.2.1
   rw[HK.out] at h2
   rw[h2]
   exact h
theorem sq_mono {a b:Nat} (h:a≤b):a*a≤b*b:=Nat.mul_le_mul h h
def GaveV (w:World) (r:List Ex) (en:Ending) (w':World):Prop:=(∃B m d,en= .returned (.slice B m d)∧RowL w' B m d r)∧Below w.heap.size w w'
theorem stacked_any (N:Nat):∀ {A:Option Addr} {n c:Nat} {l:List Ex} {w:World},n≤N→RowL w A n c l→(∀x∈l,MayX x)→n≤900→
  Calls Tryz.prog 173 #[.slice A n c] w (GaveV w (stackP l)):=by
 induction N with
 |zero=>
  intro A n c l w hN h hm h9
  obtain rfl:n=0:=by omega
  have hc:Hid (stackP l=l):=stackP_one (by have:=h.len;omega)
  have HR:=Lib.hid h
  clear h hm
  go_enter Tryz.func173,Tryz.ntmps173
  go_wp2_with fail
  go_ret
  exact⟨⟨_,_,_,rfl,by rw[hc.out];exact HR.out⟩,Below.refl _ _⟩
 |succ N ih=>
  intro A n c l w hN h hm h9
  have HIH:Hid (∀(A:Option Addr) (n c:Nat) (l:List Ex) (w:World),n≤N→RowL w A n c l→(∀x∈l,MayX x)→n≤900→Calls Tryz.prog 173 #[.slice A n c] w (GaveV w (stackP l))):=fun A n c l w=> @ih A n c l w
  have HR:=Lib.hid h
  have HM:=Lib.hid hm
  have hlen:=Lib.hid h.len
  have hcap:=h.cap
  clear ih h hm
  rcases e1:decide ((n:Int)≤(1:Int))
  ·have h2:2≤n:=by have:=of_decide_eq_false e1;omega
   obtain⟨q,hq⟩:∃q,q=n/2:=⟨_,rfl⟩
   have HQ:=Lib.hid hq
   have hqd:(n:Int).tdiv 2=(q:Int):=by rw[Int.tdiv_eq_ediv_of_nonneg (by omega)];omega
   have hqd2:(n:Int)/2=(q:Int):=by omega
   have hqw:IntKind.i64.wrap (q:Int)=(q:Int):=wrap_small (by omega) (by omega)
   have hsl1:=fun w=>run_headL A n c q (by omega) w
   have hsl2:∀w,(Instr.slice 30 (.slice A n c) (some (.int .i64 (q:Int))) none none).run Tryz.prog w= .ok (.slice (tailA A c q) (n-q) (c-q)) w:=fun w=>run_tailL A n c q (by omega) w
   have R1:=Lib.hid (RowS.head HR.out (show q≤n by omega))
   have R2:=Lib.hid (RowS.tail HR.out (show q≤n by omega))
   obtain⟨r,hr⟩:∃r,r=n-q:=⟨_,rfl⟩
   rw[←hr] at hsl2 R2
   have hqN:q≤N:=by omega
   have hrN:r≤N:=by omega
   have HM1:=Lib.hid (fun x (hx:x∈l.take q)=>HM.out x (List.mem_of_mem_take hx))
   have HM2:=Lib.hid (fun x (hx:x∈l.drop q)=>HM.out x (List.mem_of_mem_drop hx))
   have HOK1:=Lib.hid (stack_ok (Nat.le_refl _) HM1.out)
   have HOK2:=Lib.hid (stack_ok (Nat.le_refl _) HM2.out)
   have HL1:Hid ((l.take q).length≤900∧(l.drop q).length≤900):=by rw[List.length_take,List.length_drop];exact⟨by have:=hlen.out;omega,by have:=hlen.out;omega⟩
   have HST:Hid (stackP l=overE (stackP (l.take q)) (stackP (l.drop q))):=by
    show _=_
    rw[stackP_many (by have:=hlen.out;omega),hlen.out,←HQ.out]
   have hq9:q≤900:=by omega
   have hr9:r≤900:=by omega
   have HC1:=fun W (h:RowL W A q c (l.take q))=>Lib.hid (HIH.out _ _ _ _ _ hqN h HM1.out hq9)
   have HC2:=fun W (h:RowL W (tailA A c q) r (c-q) (l.drop q))=>Lib.hid (HIH.out _ _ _ _ _ hrN h HM2.out hr9)
   clear hq hr HIH
   generalize stackP (l.take q)=P at*
   generalize stackP (l.drop q)=T at*
   generalize tailA A c q=TA at*
   generalize c-q=TC at*
   have L1:Hid (Below w.heap.size w w):=Below.refl _ _
   have M1:Hid (Below w.heap.size w w):=Below.refl _ _
   go_enter Tryz.func173,Tryz.ntmps173
   go_upto_region 4 with fail
   refine wp_region_held_drew (S:=fun _=>True) (by kernel_rfl) trivial (fun hHeld=> ?_)
   have L2:=Lib.hid L1.out.drew
   have R12:=Lib.hid (RowS.drew R1.out)
   have R22:=Lib.hid (RowS.drew R2.out)
   generalize w.drew=w2 at*
   clear L1 M1 R1 R2
   refine Reg.tk 0 rfl ?_
   refine Reg.tk 1 rfl ?_
   refine Reg.tk 2 rfl ?_
   refine Reg.tk 4 rfl ?_
   refine Reg.tk 5 rfl ?_
   refine Reg.tk 6 rfl ?_
   refine Reg.step 3 rfl (by kernel_rfl) (by rfl) (fun K hK=> ?_)
   go_simp
   refine(HC1 w2 R12.out).out.mono ?_
   rintro e' w3 ⟨⟨B1,b1,c1,rfl,hr⟩,hb⟩
   have L3:=Lib.hid (L2.out.trans (hb.mono L2.out.size))
   have R13:=Lib.hid hr
   have R23:=Lib.hid (R22.out.below hb)
   clear hb hr
   refine hK.out _ _ trivial (fun hHeld3=> ?_)
   clear hK K
   (try simp only[Act.put,List.setIfInBounds_toArray,List.set_cons_zero,List.set_cons_succ])
   refine Reg.step 7 rfl (by kernel_rfl) (by rfl) (fun K hK=> ?_)
   go_simp
   refine(HC2 w3 R23.out).out.mono ?_
   rintro e' w4 ⟨⟨B2,b2,c2,rfl,hr⟩,hb⟩
   have L4:=Lib.hid (L3.out.trans (hb.mono L3.out.size))
   have R14:=Lib.hid (R13.out.below hb)
   have R24:=Lib.hid hr
   clear hb hr
   refine hK.out _ _ trivial (fun hHeld4=> ?_)
   clear hK K
   (try simp only[Act.put,List.setIfInBounds_toArray,List.set_cons_zero,List.set_cons_succ])
   refine Reg.step 8 rfl (by kernel_rfl) (by rfl) (fun K hK=> ?_)
   go_simp
   refine(over_any R14.out R24.out HOK1.out.1 HOK2.out.1 (by have h1:=R14.out.len;have h2:=HOK1.out.2;have h3:=sq_mono HL1.out.1;omega) (by have h1:=R24.out.len;have h2:=HOK2.out.2;have h3:=sq_mono HL1.out.2;omega)).mono ?_
   rintro e' w5 ⟨⟨B3,b3,c3,rfl,ho⟩,hb⟩
   have L5:=Lib.hid (L4.out.trans (hb.mono L4.out.size))
   have O5:=Lib.hid ho
   clear hb ho
   refine hK.out _ _ trivial (fun hHeld5=> ?_)
   clear hK K
   (try simp only[Act.put,List.setIfInBounds_toArray,List.set_cons_zero,List.set_cons_succ])
   refine Reg.tk 9 rfl ?_
   refine wpAnyH_done (by kernel_rfl) ?_ _
   go_wp2_with fail
   go_ret
   refine⟨⟨_,_,_,rfl,?_⟩,L5.out⟩
   rw[HST.out]
   exact OwnsL.row O5.out (by have h0:=O5.out.2;have h1:=overE_len HOK1.out.1 HOK2.out.1;have h2:=HOK1.out.2;have h3:=sq_mono HL1.out.1;have h4:=HOK2.out.2;have h5:=sq_mono HL1.out.2;omega)
  ·have h1:n≤1:=by have:=of_decide_eq_true e1;omega
   have hc:Hid (stackP l=l):=stackP_one (by have:=hlen.out;omega)
   clear h1
   go_enter Tryz.func173,Tryz.ntmps173
   go_wp2_with fail
   go_ret
   exact⟨⟨_,_,_,rfl,by rw[hc.out];exact HR.out⟩,Below.refl _ _⟩
end Ext
end
section
open Go.RowKit Mem
namespace Ext
def GaveE (w:World) (r:List Ex) (er:Int) (en:Ending) (w':World):Prop:=(∃B m d,en= .returned (.tuple #[.slice B m d,.int .i64 er])∧OwnsL w.heap.size w' (.slice B m d) m r)∧Below w.heap.size w w'
theorem wrong_any (x:Ex) (hm:MayX x) (w:World):Calls Tryz.prog 170 #[xv x] w fun e w'=>e= .returned (.bool false)∧Below w.heap.size w w':=by
 have HB:=fun w=>Lib.hid (mayBe_any x hm w)
 clear hm
 have A1:Hid (Below w.heap.size w (w.alloc (.cells #[.int .i64 x.lba,.int .i64 x.n,.int .i64 x.ver,.int .i64 x.zone,.int .i64 x.off] 60))):=(Below.refl _ w).alloc (Nat.le_refl _) _
 have B1:Hid (LBox (w.alloc (.cells #[.int .i64 x.lba,.int .i64 x.n,.int .i64 x.ver,.int .i64 x.zone,.int .i64 x.off] 60)) w.heap.size x):=Cells.new _ _ _
 obtain⟨n0,n1,n2,n3,n4⟩:=LBox.cells B1.out
 go_enter Tryz.func170,Tryz.ntmps170
 go_upto_region 1 with fail
 generalize w.alloc (.cells #[.int .i64 x.lba,.int .i64 x.n,.int .i64 x.ver,.int .i64 x.zone,.int .i64 x.off] 60)=w1 at*
 go_wp2_with (go_at_call 66;refine(HB _).out.mono ?_;rintro e w2 ⟨rfl,hb⟩;have L2:=Lib.hid (A1.out.trans (hb.mono A1.out.size));clear hb)
 go_ret
 exact⟨rfl,L2.out⟩
theorem put_any {A B:Option Addr} {n c m d:Nat} {l es:List Ex} {w:World} (hA:RowL w A n c l) (hB:RowL w B m d es) (hl:Ok 0 l) (he:∀x∈es,MayX x) (hn:n≤10000) (hm9:m≤900) (hlong:(putE l es).length≤10000):
  Calls Tryz.prog 129 #[.slice A n c,.slice B m d] w (GaveE w (putE l es) 0):=by
 have HA:=Lib.hid hA
 have HB:=Lib.hid hB
 have HL:=Lib.hid hl
 have hlen:=Lib.hid hA.len
 have hlen2:=Lib.hid hB.len
 have HC:=fun w (h:RowL w A n c l)=>Lib.hid (check_ok h hl)
 have HW:=fun w (h:RowL w B m d es)=>Lib.hid (contains_any h 170 #[] (enters_of Tryz.func170 (by kernel_rfl) rfl) (fun _=>false) (fun W x hx _=>wrong_any x hx W) he)
 rw[show es.any (fun _=>false)=false by simp] at HW
 have HOK:=Lib.hid (stack_ok (Nat.le_refl _) he)
 have HOV:Hid (Ok 0 (overE l (stackP es))):=ok_over hl (stack_ok (Nat.le_refl _) he).1
 have HST:=fun w (h:RowL w B m d es)=>Lib.hid (stacked_any m (Nat.le_refl _) h he hm9)
 have HLONG:=Lib.hid hlong
 have HP:Hid (putE l es=joinE (overE l (stackP es))):=rfl
 clear hA hB hl he hlong
 generalize stackP es=T at*
 generalize putE l es=R at*
 go_enter Tryz.func129,Tryz.ntmps129
 go_wp2_with fail
 refine(HC w HA.out).out.mono ?_
 rintro e w1 ⟨rfl,hb⟩
 have L1:=Lib.hid hb
 clear hb
 go_wp2_with fail
 refine(HW w1 (HB.out.below L1.out)).out.mono ?_
 rintro e w3 ⟨rfl,hb⟩
 have L3:=Lib.hid (L1.out.trans (hb.mono L1.out.size))
 clear hb
 go_wp2_with fail
 refine(HST w3 (HB.out.below L3.out)).out.mono ?_
 rintro e' w4 ⟨⟨B4,m4,d4,rfl,hr⟩,hb⟩
 have L4:=Lib.hid (L3.out.trans (hb.mono L3.out.size))
 have R4:=Lib.hid hr
 clear hb hr
 go_wp2_with fail
 refine(over_any (HA.out.below L4.out) R4.out HL.out HOK.out.1 (by omega) (by have h1:=R4.out.len;have h2:=HOK.out.2;have h3:=sq_mono hm9;rw[hlen2.out] at h2;omega)).mono ?_
 rintro e' w5 ⟨⟨B5,m5,d5,rfl,ho⟩,hb⟩
 have L5:=Lib.hid (L4.out.trans (hb.mono L4.out.size))
 have HLN:Hid (m5≤3000000):=by have h1:=ho.2;have h2:=overE_len HL.out HOK.out.1;have h3:=HOK.out.2;have h4:=sq_mono hm9;have:=hlen.out;rw[hlen2.out] at h3;show _≤_;omega
 have R5:=Lib.hid (OwnsL.row ho (by have:=HLN.out;omega))
 clear hb ho
 go_wp2_with fail
 refine(joined_any R5.out HOV.out (by have:=HLN.out;omega)).mono ?_
 rintro e' w6 ⟨⟨B6,m6,d6,rfl,ho⟩,hb⟩
 have L6:=Lib.hid (L5.out.trans (hb.mono L5.out.size))
 rw[←HP.out] at ho
 have O6:=Lib.hid (ho.mono L5.out.size)
 have hd:decide ((10000:Int)<(m6:Int))=false:=decide_eq_false (by have h1:=ho.2;have h2:=HLONG.out;omega)
 clear hb ho
 go_wp2_with fail
 go_ret2
 exact⟨⟨_,_,_,rfl,O6.out⟩,L6.out⟩
theorem part_any {A:Option Addr} {n c:Nat} {l:List Ex} {w:World} (hA:RowL w A n c l) (hl:Ok 0 l) (hn:n≤1000000) (a k:Int) (hk:k≤9223372036854775807):
  Calls Tryz.prog 42 #[.slice A n c,.int .i64 a,.int .i64 k] w (GaveE w (bif rangeB a k then clips a (a+k) l else []) (errOf (rangeB a k))):=by
 have HA:=Lib.hid hA
 have HL:=Lib.hid hl
 have HC:=fun w (h:RowL w A n c l)=>Lib.hid (check_ok h hl)
 have HB:=fun w=>Lib.hid (blocks_any a k hk w)
 clear hA hl
 rcases hr:rangeB a k
 ·rw[hr] at HB
  go_enter Tryz.func42,Tryz.ntmps42
  go_wp2_with fail
  refine(HC w HA.out).out.mono ?_
  rintro e w1 ⟨rfl,hb⟩
  have L1:=Lib.hid hb
  clear hb
  go_wp2_with (go_at_call 81;refine(HB _).out.mono ?_;rintro e w2 ⟨rfl,rfl⟩)
  go_ret2
  exact⟨⟨_,_,_,rfl,OwnsL.nil _ _⟩,L1.out⟩
 ·obtain⟨r1,r2,r3⟩:=rangeB_iff.1 hr
  rw[hr] at HB
  have HRG:=Lib.hid (And.intro r1 (And.intro r2 r3))
  have hw:IntKind.i64.wrap (a+k)=a+k:=wrap_small (by omega) (by omega)
  clear r1 r2 r3 hr
  go_enter Tryz.func42,Tryz.ntmps42
  go_wp2_with fail
  refine(HC w HA.out).out.mono ?_
  rintro e w1 ⟨rfl,hb⟩
  have L1:=Lib.hid hb
  clear hb
  go_wp2_with (go_at_call 81;refine(HB _).out.mono ?_;rintro e w2 ⟨rfl,rfl⟩)
  refine(addParts_any (base:=w.heap.size) (out:= []) a (a+k) (OwnsL.nil _ _) L1.out.size (fun W h=>HA.out.below (L1.out.trans h)) HL.out (by omega) (by omega) HRG.out.1 (by have:=HRG.out;omega) (by have:=HRG.out;omega) HRG.out.2.2).mono ?_
  rintro e w3 ⟨⟨Y,q,p,rfl,hO,-⟩,hb,-⟩
  have L3:=Lib.hid (L1.out.trans hb)
  have O3:=Lib.hid hO
  clear hO hb
  go_wp2_with fail
  go_ret2
  exact⟨⟨_,_,_,rfl,O3.out⟩,L3.out⟩
def atP (l:List Ex) (a:Int):Option Ex:=bif rangeB a 1 then(clips a (a+1) l).head? else none
def xvO:Option Ex→Value
 |some x=>xv x
 |none=> .agg #[.int .i64 0,.int .i64 0,.int .i64 0,.int .i64 0,.int .i64 0]
theorem atP_bad {l:List Ex} {a:Int} (h:rangeB a 1=false):atP l a=none:=by unfold atP;rw[h];rfl
theorem atP_ok {l:List Ex} {a:Int} (h:rangeB a 1=true):atP l a=(clips a (a+1) l).head? :=by unfold atP;rw[h];rfl
theorem at_any {A:Option Addr} {n c:Nat} {l:List Ex} {w:World} (hA:RowL w A n c l) (hl:Ok 0 l) (hn:n≤1000000) (a:Int):
  Calls Tryz.prog 19 #[.slice A n c,.int .i64 a] w fun e w'=>e= .returned (.tuple #[xvO (atP l a),.bool (atP l a).isSome])∧Below w.heap.size w w':=by
 have HA:=Lib.hid hA
 have HP:=fun w (h:RowL w A n c l)=>Lib.hid (part_any h hl hn a 1 (by omega))
 have L1:Hid (Below w.heap.size w (w.alloc (.cells #[.int .i64 0,.int .i64 0,.int .i64 0,.int .i64 0,.int .i64 0] 60))):=(Below.refl _ w).alloc (Nat.le_refl _) _
 have N1:Hid (LBox (w.alloc (.cells #[.int .i64 0,.int .i64 0,.int .i64 0,.int .i64 0,.int .i64 0] 60)) w.heap.size ⟨0,0,0,0,0⟩):=Cells.new w _ _
 clear hA hl
 go_enter Tryz.func19,Tryz.ntmps19
 go_upto_region 1 with fail
 generalize w.alloc (.cells #[.int .i64 0,.int .i64 0,.int .i64 0,.int .i64 0,.int .i64 0] 60)=w1 at*
 rcases hr:rangeB a 1
 ·have HAT:=Lib.hid (atP_bad (l:=l) hr)
  rw[hr] at HP
  clear hr
  go_wp2_with fail
  refine(HP w1 (HA.out.below L1.out)).out.mono ?_
  rintro e w3 ⟨⟨B,m,d,rfl,hO⟩,hb⟩
  have L3:=Lib.hid (L1.out.trans (hb.mono L1.out.size))
  have N3:=Lib.hid (Cells.below N1.out hb)
  clear hO hb
  obtain⟨z0,z1,z2,z3,z4⟩:=LBox.cells (x:=⟨0,0,0,0,0⟩) N3.out
  obtain⟨f0,f1,f2,f3,f4⟩:=LBox.frozen (x:=⟨0,0,0,0,0⟩) N3.out
  dsimp only at z0 z1 z2 z3 z4
  have he:errOf false=1:=rfl
  simp only[he]
  go_wp2_with fail
  refine bodyPost_ret_by (results_c1 rfl _ _ w.heap.size _ _ _ _ rfl (Cells.set5 N3.out (.int .i64 0) (.int .i64 0) (.int .i64 0) (.int .i64 0) (.int .i64 0)) Tryz.underlying60 rfl (by kernel_rfl)) rfl ?_
  exact⟨by rw[HAT.out];rfl,below5 L3.out (Nat.le_refl _) _ _ _ _ _ _ _ _ _ _⟩
 ·have HAT:=Lib.hid (atP_ok (l:=l) hr)
  rw[hr] at HP
  clear hr
  go_wp2_with fail
  refine(HP w1 (HA.out.below L1.out)).out.mono ?_
  rintro e w3 ⟨⟨B,m,d,rfl,hO⟩,hb⟩
  have L3:=Lib.hid (L1.out.trans (hb.mono L1.out.size))
  have N3:=Lib.hid (Cells.below N1.out hb)
  have O3:=Lib.hid hO
  clear hO hb
  obtain⟨z0,z1,z2,z3,z4⟩:=LBox.cells (x:=⟨0,0,0,0,0⟩) N3.out
  obtain⟨f0,f1,f2,f3,f4⟩:=LBox.frozen (x:=⟨0,0,0,0,0⟩) N3.out
  dsimp only at z0 z1 z2 z3 z4
  have he:errOf true=0:=rfl
  simp only[he,cond_true] at*
  generalize clips a (a+1) l=C at*
  rcases C with _|⟨x,r⟩
  ·obtain rfl:m=0:=O3.out.2.symm
   go_wp2_with fail
   refine bodyPost_ret_by (results_c1 rfl _ _ w.heap.size _ _ _ _ rfl (Cells.set5 N3.out (.int .i64 0) (.int .i64 0) (.int .i64 0) (.int .i64 0) (.int .i64 0)) Tryz.underlying60 rfl (by kernel_rfl)) rfl ?_
   exact⟨by rw[HAT.out];rfl,below5 L3.out (Nat.le_refl _) _ _ _ _ _ _ _ _ _ _⟩
  ·have hm:m=r.length+1:=O3.out.2.symm
   obtain⟨g,hB,-,-,⟨q0,q1,q2,q3,q4⟩,-,-⟩:=OwnsL.put (k:=0) (x:=x) O3.out rfl
   subst hB
   simp only[Nat.zero_mul,Nat.zero_add] at q0 q1 q2 q3 q4
   have hm0:(0:Int)<(m:Int):=by omega
   have hmz:((m:Int)==0)=false:=by simp;omega
   have hmz2:¬(m:Int)=0:=by omega
   have hmz3:¬m=0:=by omega
   clear hm
   go_wp2_with fail
   refine bodyPost_ret_by (results_c1 rfl _ _ w.heap.size _ _ _ _ rfl (Cells.set5 N3.out (.int .i64 x.lba) (.int .i64 x.n) (.int .i64 x.ver) (.int .i64 x.zone) (.int .i64 x.off)) Tryz.underlying60 rfl (by kernel_rfl)) rfl ?_
   exact⟨by rw[HAT.out];rfl,below5 L3.out (Nat.le_refl _) _ _ _ _ _ _ _ _ _ _⟩
def bv:Option (Int × Int × Int)→Value
 |some (v,z,o)=> .agg #[.bool true,.int .i64 v,.int .i64 z,.int .i64 o]
 |none=> .agg #[.bool false,.int .i64 0,.int .i64 0,.int .i64 0]
theorem head_tell {l:List Ex} {a:Int} (hl:Ok 0 l) (hr:rangeB a 1=true):(atP l a).map (fun x=>(x.ver,x.zone,x.off))=tell l a:=by
 rw[atP_ok hr]
 have h1:=tell_clips (a:=a) (b:=a+1) hl a
 rw[if_pos (by omega)] at h1
 rw[←h1]
 have hok:Ok a (clips a (a+1) l):=ok_clips hl (by omega)
 have hen:=ends_clips a (a+1) l
 rcases e:clips a (a+1) l with _|⟨x,r⟩
 ·rfl
 ·rw[e] at hok hen
  have hx:=en_lt hok.1
  have hx2:=hok.2.1
  have hx3:=hen x List.mem_cons_self
  have hxa:x.lba=a:=by omega
  show some (x.ver,x.zone,x.off)=_
  rw[tell,if_pos (by unfold has;omega)]
  unfold blk
  by_cases hz:x.zone= -1
  ·rw[if_pos hz,may_zone hok.1 hz]
  ·rw[if_neg hz,show x.off+16*(a-x.lba)=x.off by omega]
theorem at_tell {l:List Ex} (hl:Ok 0 l) (a:Int):(atP l a).map (fun x=>(x.ver,x.zone,x.off))=tell l a:=by
 rcases hr:rangeB a 1
 ·rw[atP_bad hr]
  have:¬(0≤a∧1≤(1:Int)∧a+1≤1099511627776):=fun h=>by rw[rangeB_iff.2 h] at hr;cases hr
  by_cases h0:a<0
  ·rw[tell_low hl h0];rfl
  ·rw[tell_high hl (by omega)];rfl
 ·exact head_tell hl hr
end Ext
end
section
open Go.RowKit Mem Ext Go.Shelf Go.Sort
namespace Vm
theorem reverse_any {base:Nat} {w:World} {A:Option Addr} {n c:Nat} {l:List Ex} (h:OwnsL base w (.slice A n c) n l) (hb:base≤w.heap.size):
  Calls Tryz.prog 131 #[.slice A n c] w fun e w'=>e= .returned (.tuple #[])∧OwnsL base w' (.slice A n c) n l.reverse∧Below base w w':=by
 have hlen:l.length=n:=h.2
 rcases Nat.eq_zero_or_pos n with h0|h0
 ·subst h0
  have hl0:l= []:=List.eq_nil_of_length_eq_zero hlen
  refine Calls.mono (show Calls Tryz.prog 131 _ _ _ from AnyQ.slices_Reverse_empty laysRev A c w) (fun e w' ⟨h1,h2⟩=> ?_)
  subst h2 hl0
  exact⟨h1,h,Below.refl _ _⟩
 ·rcases h.1.2 with⟨-,h1⟩|⟨g,cap,cur,hs,hbg,hg,hnc,hcm,hsz,ht⟩
  ·omega
  ·injection hs with e1 _ e3
   subst e1 e3
   obtain⟨d,hd⟩:∃d:Array Tg,d=l.zipIdx.toArray:=⟨_,rfl⟩
   have hdn:d.size=n:=by rw[hd];simpa using hlen
   have hH:HoldsK cellsT 5 w g 0 d:=by
    rw[hd]
    refine holds_flat hg ?_
    rw[cells_tag,List.length_zipIdx,hlen];exact ht
   have hr:=AnyQ.slices_Reverse laysRev 5 Tryz.isAgg60 Tryz.sizeOf60 cellsT enc5 one5 g 0 c d w hH (by have:=hcm;unfold maxLen at this;omega)
   rw[hdn] at hr
   refine Calls.mono (show Calls Tryz.prog 131 _ _ _ from hr) (fun e w' ⟨h1,k,hw⟩=> ?_)
   have hw':w'=sortWorldK cellsT 5 w g 0 k d.reverse #[]:=by rw[hw];unfold sortWorldK;rw[Go.Sort.grow_empty]
   obtain⟨o1,o2⟩:=own_world hbg hg hnc hcm hsz (d:=d.reverse) (by simpa using hdn) hw' hb
   refine⟨h1,?_,o2⟩
   have e:d.reverse.toList.map Prod.fst=l.reverse:=by rw[hd];simp
   rw[e] at o1
   exact o1
def Offd (l:List Ex) (m:List Ex):Prop:=∃r:List Tg,r.Perm l.reverse.zipIdx∧r.Pairwise byVer∧m=putE [] (r.map Prod.fst)
theorem put_none_len {es:List Ex} (he:∀x∈es,MayX x):(putE [] es).length≤2*(es.length*es.length):=by
 obtain⟨h1,h2⟩:=stack_ok (Nat.le_refl _) he
 have h3:=overE_len (g:=0) (l:= []) trivial h1
 have h4:=join_len (overE [] (stackP es))
 unfold putE
 simp only[List.length_nil] at h3
 omega
theorem offd_may {l:List Ex} {r:List Tg} (hm:∀x∈l,MayX x) (hp:r.Perm l.reverse.zipIdx):(∀x∈r.map Prod.fst,MayX x)∧r.length=l.length:=by
 have h1:=hp.map Prod.fst
 rw[List.zipIdx_map_fst] at h1
 refine⟨fun x hx=>hm x (by simpa using h1.mem_iff.1 hx),?_⟩
 have:=hp.length_eq
 simpa using this
theorem offer_any {A:Option Addr} {n c:Nat} {l:List Ex} {w:World} (h:RowL w A n c l) (hm:∀x∈l,MayX x) (hn:n≤60):
  Calls Tryz.prog 95 #[.slice none 0 0,.slice A n c] w fun e w'=>∃m,Offd l m∧GaveE w m 0 e w':=by
 have HR:=Lib.hid h
 have hlen:=h.len
 have HM:=Lib.hid hm
 have R0:∀w,RowL w none 0 0 []:=fun w=>RowS.nil _ _ w
 have HP0:=fun w=>Lib.hid (put_any (R0 w) (R0 w) (show Ok 0 [] from trivial) (by simp) (by omega) (by omega) (by have:=put_none_len (es:= []) (by simp);simp at this;rw[this];simp))
 rcases Nat.eq_zero_or_pos n with h0|h0
 ·subst h0
  have HL:=Lib.hid (List.eq_nil_of_length_eq_zero hlen)
  clear h hm hlen hn
  go_enter Tryz.func95,Tryz.ntmps95
  go_wp2_with (go_at_call 129;refine(HP0 _).out.mono ?_;rintro e w2 ⟨⟨B,m,d,rfl,hO⟩,hb⟩;have O2:=Lib.hid hO;have L2:=Lib.hid hb;clear hO hb)
  go_ret2
  exact⟨_,⟨[],by rw[HL.out];exact List.Perm.refl _,List.Pairwise.nil,rfl⟩,⟨B,m,d,rfl,O2.out⟩,L2.out⟩
 ·have HRE:=Lib.hid (reach_any h hm h0)
  have HPA:=fun w a k (h:rangeB a k=true)=>Lib.hid (show Calls Tryz.prog 42 #[.slice none 0 0,.int .i64 a,.int .i64 k] w (GaveE w [] 0) by
   have:=part_any (R0 w) (show Ok 0 [] from trivial) (by omega) a k (by have:=rangeB_iff.1 h;omega)
   rw[h] at this
   have e:(bif true then clips a (a+k) [] else [])=([]:List Ex):=clips_nil a (a+k)
   rw[e] at this
   exact this)
  have hn0:¬(n:Int)=0:=by omega
  have hnz:((n:Int)==0)=false:=by simp;omega
  have HN:=Lib.hid hn
  clear h hm HP0 hlen hn
  go_enter Tryz.func95,Tryz.ntmps95
  go_wp2_with (first
   |(go_at_call 130;refine HRE.out.mono ?_;rintro e w2 ⟨⟨a,k,rfl,hr⟩,hb⟩;have HK:=Lib.hid hr;have L2:=Lib.hid hb;clear hr hb)
   |(go_at_call 42;refine(HPA _ _ _ HK.out).out.mono ?_;rintro e w3 ⟨⟨B,m,d,rfl,hO⟩,hb⟩;have O3:=Lib.hid (OwnsL.mono hO L2.out.size);have L3:=Lib.hid (L2.out.trans (hb.mono L2.out.size));clear hO hb)
   |(have Z3:=Lib.hid O3.out.2
     refine wpList_append_l rfl (.tmp 32) (.tmp 33) rfl rfl w.heap.size _ m [] rfl O3.out _ n c l rfl (HR.out.below L3.out) (by have:=Z3.out;simp at this;have:=HN.out;omega) L3.out.size ?_
     intro B4 c4 w4 h4 h5 h6
     obtain rfl:m=0:=by have:=Z3.out;simpa using this.symm
     have O4:=Lib.hid (show OwnsL w.heap.size w4 (.slice B4 n c4) n l by have:=h4;simpa using this)
     have L4:=Lib.hid (L3.out.grown h5 L3.out.size (fun q hq=>(OwnsL.lt O3.out q hq).1))
     clear h4 h5 h6 O3 L3)
   |(go_at_call 131;refine(reverse_any O4.out L4.out.size).mono ?_;rintro e w5 ⟨rfl,hO,hb⟩;have O5:=Lib.hid hO;have L5:=Lib.hid (L4.out.trans hb);clear hO hb)
   |(go_at_call 132;refine(stable_any O5.out L5.out.size (by have:=HN.out;omega)).mono ?_;rintro e w6 ⟨rfl,⟨r,hO,hp,hw⟩,hb⟩;have O6:=Lib.hid hO;have L6:=Lib.hid (L5.out.trans hb);have HP6:=Lib.hid (And.intro hp hw);clear hO hb hp hw))
  obtain⟨hmx,hrl⟩:=offd_may HM.out HP6.out.1
  have hrn:(r.map Prod.fst).length=n:=O6.out.2
  have hput:=put_none_len hmx
  have hq:(r.map Prod.fst).length*(r.map Prod.fst).length≤60*60:=Nat.mul_le_mul (by rw[hrn];exact HN.out) (by rw[hrn];exact HN.out)
  have HPU:=Lib.hid (put_any (R0 _) (OwnsL.row O6.out (by have:=HN.out;omega)) (show Ok 0 [] from trivial) hmx (by omega) (by have:=HN.out;omega) (by omega))
  clear hput hq hmx hrl hrn
  refine HPU.out.mono ?_
  rintro e w7 ⟨⟨B,m,d,rfl,hO⟩,hb⟩
  have O7:=Lib.hid (OwnsL.mono hO L6.out.size)
  have L7:=Lib.hid (L6.out.trans (hb.mono L6.out.size))
  clear hO hb
  go_wp2_with fail
  go_ret2
  exact⟨_,⟨r,HP6.out.1,HP6.out.2,rfl⟩,⟨B,m,d,rfl,O7.out⟩,L7.out⟩
end Vm
end
section
open Go.RowKit Mem
namespace Ext
theorem head0 (A:Option Addr) (n c:Nat) (w:World):(Instr.slice 30 (.slice A n c) none (some (.int .i64 0)) none).run Tryz.prog w= .ok (.slice A 0 c) w:=run_headL A n c 0 (by omega) w
theorem growNil_any (n:Nat) (hn:n≤2000000) (w:World):
  Calls Tryz.prog 175 #[.slice none 0 0,.int .i64 n] w fun e w'=>(∃A c,e= .returned (.slice A 0 c)∧OwnsL w.heap.size w' (.slice A 0 c) 0 [])∧Below w.heap.size w w':=by
 rcases Nat.eq_zero_or_pos n with h0|h0
 ·subst h0
  go_enter Tryz.func175,Tryz.ntmps175
  go_wp2
  go_ret
  exact⟨⟨_,_,rfl,OwnsL.nil _ _⟩,Below.refl _ _⟩
 ·obtain⟨i,hi,hz0,hz1,hz2⟩:=info_parts info_ext
  have hr:=fun w=>Lib.run_append_nil_zeros (P:=Tryz.prog) w 30 3 30 60 i _ .i64 .i64 Tryz.underlying30 Tryz.underlying3 hi hz0 n h0 (by omega) (by omega) (by rw[hz2];omega)
  have HR:=Lib.hid hr
  have hsl:=head0
  clear hr hi hz0 hz1 hz2
  go_enter Tryz.func175,Tryz.ntmps175
  go_wp2_with (at_builtin
               refine Lib.wpList_append_run _ rfl (.tmp 20) (.tmp 21) _ _ rfl _ _ rfl rfl _ _ (HR.out _) ?_)
  go_ret
  refine⟨⟨_,_,rfl,⟨?_,rfl⟩⟩,(Below.refl _ w).drew.alloc (Nat.le_refl _) _⟩
  refine World.ownsRow_made w.drew _ _ (Nat.le_refl _) (grownCap_le_maxLen w n 0 _ (by unfold maxLen;omega)) ?_
  have:=grownCap_ge w n 0 60
  rw[Array.size_append,size_zeroCells,size_zeroCells]
  show n*5+(grownCap w n 0 60-n)*5=grownCap w n 0 60*5
  omega
def total (ps:List Piece):Nat:=(ps.map Piece.n).sum
def joined (ps:List Piece):List Ex:=ps.flatMap Piece.l
theorem total_snoc (ps:List Piece) (p:Piece):total (ps++ [p])=total ps+p.n:=by simp[total]
theorem joined_snoc (ps:List Piece) (p:Piece):joined (ps++ [p])=joined ps++p.l:=by simp[joined]
theorem total_take_le (ps:List Piece) (k:Nat):total (ps.take k)≤total ps:=by
 conv=>rhs;rw[←List.take_append_drop k ps]
 unfold total
 rw[List.map_append,List.sum_append]
 omega
theorem concat_any {A:Option Addr} {n c:Nat} {ps:List Piece} {w:World} (h:Row Piece.val w A n c ps) (hp:∀p∈ps,RowL w p.A p.n p.c p.l) (ht:total ps≤2000000):
  Calls Tryz.prog 134 #[.slice A n c] w fun e w'=>(∃B k d,e= .returned (.slice B k d)∧OwnsL w.heap.size w' (.slice B k d) k (joined ps))∧Below w.heap.size w w':=by
 have HR:=Lib.hid h
 have HP:=Lib.hid hp
 have hb:=h.big
 clear h hp
 go_enter Tryz.func134,Tryz.ntmps134
 go_wp2
 go_loop [3,5,11] (fun s _ i=>∃k z:Nat,i= .int .i64 k∧s= .int .i64 z∧k≤n∧z≤total ps∧Hid (total (ps.take k)=z)) (fun _ _ i=>n-(intOf i).toNat)
 case atStart=>exact⟨0,0,rfl,rfl,by omega,by omega,rfl⟩
 case round=>
  obtain⟨k,z,rfl,rfl,hk,hz,hT⟩:=hrel
  by_cases hlt:k<n
  ·obtain⟨p,hp⟩:=HR.out.get hlt
   obtain⟨b,o,rfl,hcell⟩:=HR.out.cell hp
   have hcell':w.cell? ⟨b,o+k,none⟩=some (.slice p.A p.n p.c):=hcell
   have hzn:z+p.n≤total ps:=by
    have h1:=total_take_le ps (k+1)
    rw[List.take_add_one,hp] at h1
    have h2:=total_snoc (ps.take k) p
    have:=hT.out
    simp only[Option.toList_some] at h1
    omega
   have HE:=Lib.hid hp
   clear hcell hp
   go_wp2
   go_round
   case rel=>exact⟨k+1,z+p.n,by go_num,by go_num,by omega,hzn,by show _=_;rw[List.take_add_one,HE.out,Option.toList_some,total_snoc,hT.out]⟩
   case measure=>simp[intOf];omega
  ·have hkn:ps.take k=ps:=List.take_of_length_le (by have:=HR.out.len;omega)
   have hz2:total ps=z:=by rw[←hT.out,hkn]
   have HZ:=Lib.hid hz2
   have HG:=Lib.hid (fun w=>growNil_any z (by omega) w)
   clear hkn hz2 hT
   go_wp2_with (go_at_call 175;refine(HG.out _).mono ?_;rintro e w2 ⟨⟨G,gc,rfl,hG⟩,hb2⟩;have OG:=Lib.hid hG;have B2:=Lib.hid hb2;clear hG hb2)
   go_loopw [6,8,27] (fun s _ i wr=>∃(S:Option Addr) (j d q:Nat),s= .slice S j d∧i= .int .i64 q∧q≤n∧Hid (OwnsL w.heap.size wr (.slice S j d) j (joined (ps.take q))∧Below w.heap.size w wr∧j=total (ps.take q))) (fun _ _ i _=>n-(intOf i).toNat)
   case atStart=>exact⟨G,0,gc,0,rfl,rfl,by omega,OG.out,B2.out,rfl⟩
   case round=>
    obtain⟨S,j,d,q,rfl,rfl,hq,hO⟩:=hrel
    by_cases hlq:q<n
    ·obtain⟨p,hp⟩:=HR.out.get hlq
     obtain⟨b,o,rfl,hcell⟩:=(HR.out.below hO.out.2.1).cell hp
     have hcell':wr.cell? ⟨b,o+q,none⟩=some (.slice p.A p.n p.c):=hcell
     have hzn:Hid (j+p.n≤total ps):=by
      have h1:=total_take_le ps (q+1)
      rw[List.take_add_one,hp] at h1
      have h2:=total_snoc (ps.take q) p
      have:=hO.out.2.2
      simp only[Option.toList_some] at h1
      show _≤_
      omega
     have HE:=Lib.hid hp
     have RP:=Lib.hid ((HP.out p (List.mem_of_getElem? hp)).below hO.out.2.1)
     clear hcell hp
     go_wp2_with (at_builtin
                  refine wpList_append_l rfl (.tmp 31) (.tmp 32) rfl rfl w.heap.size (.slice S j d) j _ rfl hO.out.1 p.A p.n p.c p.l rfl RP.out (by have:=hzn.out;omega) hO.out.2.1.size ?_
                  intro A3 c3 w3 hown3 hg3 h53
                  have O3:=Lib.hid hown3
                  have B3:=Lib.hid (below_row hO.out.1 hg3 hO.out.2.1.size)
                  clear hown3 hg3 h53)
     go_roundw
     case rel=>
      refine⟨A3,j+p.n,c3,q+1,rfl,by go_num,by omega,?_,hO.out.2.1.trans B3.out,?_⟩
      ·rw[List.take_add_one,HE.out,Option.toList_some,joined_snoc];exact O3.out
      ·rw[List.take_add_one,HE.out,Option.toList_some,total_snoc,←hO.out.2.2]
     case measure=>simp[intOf];omega
    ·have hkn:ps.take q=ps:=List.take_of_length_le (by have:=HR.out.len;omega)
     have HK:=Lib.hid hkn
     clear hkn
     go_wp2
     go_ret
     have h:=hO.out
     rw[HK.out] at h
     exact⟨⟨_,_,_,rfl,h.1⟩,h.2.1⟩
end Ext
end
section
open Go.RowKit Mem
namespace Ext
theorem sequal_any {w:World} {A B:Option Addr} {n c d:Nat} {l:List Ex} (h:RowL w A n c l) (h2:RowL w B n d l):
  Calls Tryz.prog 128 #[.slice A n c,.slice B n d] w fun e w'=>e= .returned (.bool true)∧Below w.heap.size w w':=by
 have HA:=Lib.hid h
 have HB:=Lib.hid h2
 have hbig:=h.big
 clear h h2
 go_enter Tryz.func128,Tryz.ntmps128
 go_wp2
 go_loopw [5,13] (fun _ i wr=>∃k:Nat,i= .int .i64 k∧k≤n∧Hid (Below w.heap.size w wr)) (fun _ i _=>n-(intOf i).toNat)
 case atStart=>exact⟨0,rfl,by omega,Below.refl _ _⟩
 case round=>
  obtain⟨k,rfl,hk,hH⟩:=hrel
  by_cases hlt:k<n
  ·obtain⟨x,hx⟩:=HA.out.get hlt
   obtain⟨b,o,hA,c0,c1,c2,c3,c4⟩:=RowS.ext_at (HA.out.below hH.out) hx
   obtain⟨b',o',hB,d0,d1,d2,d3,d4⟩:=RowS.ext_at (HB.out.below hH.out) hx
   subst hA hB
   have hk0:(0:Int)≤(k:Int):=by omega
   have hkn:(k:Int)<(n:Int):=by omega
   have hne:=fun w=>ext_neq x w
   have hgd:=ext_guard
   clear hx
   go_upto_region 6 with fail
   refine wp_region_held_drew (S:=fun W=>(W.cell? ⟨b,o+k*5,none⟩=some (.int .i64 x.lba)∧W.cell? ⟨b,o+k*5+1,none⟩=some (.int .i64 x.n)∧W.cell? ⟨b,o+k*5+2,none⟩=some (.int .i64 x.ver)∧W.cell? ⟨b,o+k*5+3,none⟩=some (.int .i64 x.zone)∧W.cell? ⟨b,o+k*5+4,none⟩=some (.int .i64 x.off))∧(W.cell? ⟨b',o'+k*5,none⟩=some (.int .i64 x.lba)∧W.cell? ⟨b',o'+k*5+1,none⟩=some (.int .i64 x.n)∧W.cell? ⟨b',o'+k*5+2,none⟩=some (.int .i64 x.ver)∧W.cell? ⟨b',o'+k*5+3,none⟩=some (.int .i64 x.zone)∧W.cell? ⟨b',o'+k*5+4,none⟩=some (.int .i64 x.off))) (by kernel_rfl) ⟨⟨c0,c1,c2,c3,c4⟩,d0,d1,d2,d3,d4⟩ (fun hHeld=> ?_)
   refine Reg.tk 0 rfl ?_
   refine Reg.tk 1 rfl ?_
   refine Reg.tk 2 rfl ?_
   refine Reg.tk 3 rfl ?_
   refine Reg.tk 4 rfl ?_
   refine Reg.tk 5 rfl ?_
   refine Reg.tk 6 rfl ?_
   refine Reg.tk 7 rfl ?_
   refine Reg.step 8 rfl (by kernel_rfl) (by rfl) (fun K hK=> ?_)
   go_simp
   refine hK.out _ _ hHeld (fun hHeld2=> ?_)
   clear hK K
   (try simp only[Act.put,List.setIfInBounds_toArray,List.set_cons_zero,List.set_cons_succ])
   refine wpAnyH_done (by kernel_rfl) ?_ _
   go_wp2_with fail
   go_roundw
   case rel=>exact⟨k+1,by go_num,by omega,hH.out.drew⟩
   case measure=>simp[intOf];omega
  ·go_wp2_with fail
   go_ret
   exact⟨rfl,hH.out⟩
theorem equal_any {w:World} {A B:Option Addr} {n c d:Nat} {l:List Ex} (h:RowL w A n c l) (h2:RowL w B n d l):
  Calls Tryz.prog 18 #[.slice A n c,.slice B n d] w fun e w'=>e= .returned (.bool true)∧Below w.heap.size w w':=by
 have HA:=Lib.hid h
 have HB:=Lib.hid h2
 have hbig:=h.big
 clear h h2
 go_enter Tryz.func18,Tryz.ntmps18
 go_wp2
 go_loopw [5,13] (fun _ i wr=>∃k:Nat,i= .int .i64 k∧k≤n∧Hid (Below w.heap.size w wr)) (fun _ i _=>n-(intOf i).toNat)
 case atStart=>exact⟨0,rfl,by omega,Below.refl _ _⟩
 case round=>
  obtain⟨k,rfl,hk,hH⟩:=hrel
  by_cases hlt:k<n
  ·obtain⟨x,hx⟩:=HA.out.get hlt
   obtain⟨b,o,hA,c0,c1,c2,c3,c4⟩:=RowS.ext_at (HA.out.below hH.out) hx
   obtain⟨b',o',hB,d0,d1,d2,d3,d4⟩:=RowS.ext_at (HB.out.below hH.out) hx
   subst hA hB
   have hk0:(0:Int)≤(k:Int):=by omega
   have hkn:(k:Int)<(n:Int):=by omega
   have hne:=fun w=>ext_neq x w
   have hgd:=ext_guard
   clear hx
   go_upto_region 6 with fail
   refine wp_region_held_drew (S:=fun W=>(W.cell? ⟨b,o+k*5,none⟩=some (.int .i64 x.lba)∧W.cell? ⟨b,o+k*5+1,none⟩=some (.int .i64 x.n)∧W.cell? ⟨b,o+k*5+2,none⟩=some (.int .i64 x.ver)∧W.cell? ⟨b,o+k*5+3,none⟩=some (.int .i64 x.zone)∧W.cell? ⟨b,o+k*5+4,none⟩=some (.int .i64 x.off))∧(W.cell? ⟨b',o'+k*5,none⟩=some (.int .i64 x.lba)∧W.cell? ⟨b',o'+k*5+1,none⟩=some (.int .i64 x.n)∧W.cell? ⟨b',o'+k*5+2,none⟩=some (.int .i64 x.ver)∧W.cell? ⟨b',o'+k*5+3,none⟩=some (.int .i64 x.zone)∧W.cell? ⟨b',o'+k*5+4,none⟩=some (.int .i64 x.off))) (by kernel_rfl) ⟨⟨c0,c1,c2,c3,c4⟩,d0,d1,d2,d3,d4⟩ (fun hHeld=> ?_)
   refine Reg.tk 0 rfl ?_
   refine Reg.tk 1 rfl ?_
   refine Reg.tk 2 rfl ?_
   refine Reg.tk 3 rfl ?_
   refine Reg.tk 4 rfl ?_
   refine Reg.tk 5 rfl ?_
   refine Reg.tk 6 rfl ?_
   refine Reg.tk 7 rfl ?_
   refine Reg.step 8 rfl (by kernel_rfl) (by rfl) (fun K hK=> ?_)
   go_simp
   refine hK.out _ _ hHeld (fun hHeld2=> ?_)
   clear hK K
   (try simp only[Act.put,List.setIfInBounds_toArray,List.set_cons_zero,List.set_cons_succ])
   refine wpAnyH_done (by kernel_rfl) ?_ _
   go_wp2_with fail
   go_roundw
   case rel=>exact⟨k+1,by go_num,by omega,hH.out.drew⟩
   case measure=>simp[intOf];omega
  ·go_wp2_with fail
   go_ret
   exact⟨rfl,hH.out⟩
theorem join_any {A:Option Addr} {n c:Nat} {l:List Ex} {w:World} (h:RowL w A n c l) (hok:Ok 0 l) (hn:n≤3000000):
  Calls Tryz.prog 72 #[.slice A n c] w (GaveR w (joinE l)):=by
 have HR:=Lib.hid h
 have HC:=fun w (h:RowL w A n c l)=>Lib.hid (check_ok h hok)
 have HJ:=fun w (h:RowL w A n c l)=>Lib.hid (joined_any h hok hn)
 clear h hok
 go_enter Tryz.func72,Tryz.ntmps72
 go_wp2_with fail
 refine(HC w HR.out).out.mono ?_
 rintro e w2 ⟨rfl,hb⟩
 have L2:=Lib.hid hb
 clear hb
 go_wp2_with fail
 refine(HJ w2 (HR.out.below L2.out)).out.mono ?_
 rintro e w3 ⟨⟨B,m,d,rfl,hO⟩,hb⟩
 have L3:=Lib.hid (L2.out.trans (hb.mono L2.out.size))
 have O3:=Lib.hid (hO.mono L2.out.size)
 clear hb hO
 go_wp2_with fail
 go_ret
 exact⟨⟨_,_,_,rfl,O3.out⟩,L3.out⟩
end Ext
end
section
open Go.RowKit Mem
namespace Ext
theorem own_far {base g:Nat} {w:World} {s:Value} {n:Nat} {l:List Ex} {t:TypeId} {cs:Array Value} (h:OwnsL base w s n l) (hc:Cells w g t cs) (ht:t≠60):s.ownBlock≠some g:=by
 intro e
 rcases h.1.2 with⟨rfl,-⟩|⟨q,cap,cur,rfl,-,hq,-⟩
 ·cases e
 ·have e:some q=some g:=e
  injection e with e
  subst e
  have hc':w.heap[q]? =some (.cells cs t (0,0)):=hc
  rw[hc'] at hq
  injection hq with hq
  injection hq with h1 h2
  exact ht h2
structure Up (base g q:Nat) (w:World) (f:Int) (out:List Ex):Prop where
 gaps:∃X j d,Cells w g 30 #[.slice X j d]∧OwnsL base w (.slice X j d) j out
 from_:OneBox w q 3 (.int .i64 f)
theorem upTo_any {base g q:Nat} {w:World} {f u:Int} {X:Option Addr} {j d:Nat} {out:List Ex} (hg:Cells w g 30 #[.slice X j d]) (hO:OwnsL base w (.slice X j d) j out) (hq:OneBox w q 3 (.int .i64 f)) (hbg:base≤g) (hj:j≤3000000) (hf:0≤f) (hf2:f≤1099511627776) (ht:0≤u) (ht2:u≤1099511627776):
  Calls Tryz.prog 101 #[.int .i64 u,.pointer (some ⟨q,0,none⟩),.pointer (some ⟨g,0,none⟩)] w fun e w'=>e= .returned (.tuple #[])∧(∃X' j' d',Cells w' g 30 #[.slice X' j' d']∧OwnsL base w' (.slice X' j' d') j' (out++gap f u)∧∀k,(Value.slice X' j' d').ownBlock=some k→(Value.slice X j d).ownBlock=some k∨w.heap.size≤k)∧OneBox w' q 3 (.int .i64 f)∧Below base w w'∧
   ∀k,k<w.heap.size→k≠g→(Value.slice X j d).ownBlock≠some k→w'.heap[k]? =w.heap[k]? :=by
 have m0:=OneBox.cells hq
 have m1:w.cell? ⟨g,0,none⟩=some (.slice X j d):=Cells.cell hg 0
 have HG:=Lib.hid hg
 have HO:=Lib.hid hO
 have HQ:=Lib.hid hq
 have HBG:=Lib.hid hbg
 have hgq:Hid (g≠q):=fun e=>by
  subst e
  have h1:w.heap[g]? =some (.cells #[.slice X j d] 30 (0,0)):=hg
  have h2:w.heap[g]? =some (.cells #[.int .i64 f] 3 (0,0)):=hq
  rw[h1] at h2
  injection h2 with h2
  injection h2 with h2 h3
  exact absurd h3 (by decide)
 have hw:IntKind.i64.wrap (u-f)=u-f:=wrap_small (by omega) (by omega)
 clear hg hO hq hbg
 rcases e1:decide (f<u)
 ·have HE:Hid (gap f u= []):=by show _=_;unfold gap;rw[e1];rfl
  go_enter Tryz.func101,Tryz.ntmps101
  go_wp2_with fail
  refine bodyPost_end (results_none rfl _ _ _) rfl ?_
  exact⟨rfl,⟨X,j,d,HG.out,by rw[HE.out,List.append_nil];exact HO.out,fun k hk=> .inl hk⟩,HQ.out,Below.refl _ _,fun k _ _ _=>rfl⟩
 ·have HE:Hid (gap f u= [⟨f,u-f,0,-1,0⟩]):=by show _=_;unfold gap;rw[e1];rfl
  have A1:Hid (Below w.heap.size w (w.alloc (.cells #[.int .i64 f,.int .i64 (u-f),.int .i64 0,.int .i64 (-1),.int .i64 0] 60))):=(Below.refl _ w).alloc (Nat.le_refl _) _
  have N1:Hid (LBox (w.alloc (.cells #[.int .i64 f,.int .i64 (u-f),.int .i64 0,.int .i64 (-1),.int .i64 0] 60)) w.heap.size ⟨f,u-f,0,-1,0⟩):=Cells.new _ _ _
  have O1:=Lib.hid (OwnsL.alloc HO.out (.cells #[.int .i64 f,.int .i64 (u-f),.int .i64 0,.int .i64 (-1),.int .i64 0] 60))
  have G1:=Lib.hid (Cells.alloc HG.out (.cells #[.int .i64 f,.int .i64 (u-f),.int .i64 0,.int .i64 (-1),.int .i64 0] 60))
  have Q1:=Lib.hid (Cells.alloc HQ.out (.cells #[.int .i64 f,.int .i64 (u-f),.int .i64 0,.int .i64 (-1),.int .i64 0] 60))
  have HBS:Hid (base≤w.heap.size):=Nat.le_trans HBG.out (Nat.le_of_lt (Cells.lt HG.out))
  go_enter Tryz.func101,Tryz.ntmps101
  go_wp2_with (at_builtin
               refine wpList_append_l rfl (.tmp 7) (.tmp 13) rfl rfl base (.slice X j d) j out rfl O1.out _ 1 1 [⟨f,u-f,0,-1,0⟩] rfl (RowS.one N1.out) (by omega) (Nat.le_trans HBS.out A1.out.size) ?_
               intro A' c' w2 h1 h2 h3
               have O2:=Lib.hid h1
               have G2:=Lib.hid h2
               have Z2:=Lib.hid h3
               have C2:=Lib.hid (Cells.grown G1.out h2 (own_far O1.out G1.out (by decide)))
               have D2:=Lib.hid (Cells.grown Q1.out h2 (own_far O1.out Q1.out (by decide)))
               have p1:w2.cell? ⟨g,0,none⟩=some (.slice X j d):=Cells.cell C2.out 0
               have p2:w2.frozen? ⟨g,0,none⟩=false:=Cells.frozen C2.out 0
               clear h1 h2 h3)
  refine bodyPost_end (results_none rfl _ _ _) rfl ?_
  have hfar:=own_far O2.out C2.out (by decide)
  have B2:Below base w w2:=(A1.out.mono HBS.out).trans (below_row O1.out G2.out (Nat.le_trans HBS.out A1.out.size))
  refine⟨rfl,⟨A',j+1,c',Cells.set_ C2.out 0 _,?_,fun k hk=> ?_⟩,Cells.set_other D2.out hgq.out 0 _,belowk B2 HBG.out 0 _,fun k hk hne hno=> ?_⟩
  ·rw[HE.out]
   exact OwnsL.kept O2.out (But.set1 _ g 0 _).by_ (.inr hfar)
  ·rcases Z2.out with h|h
   ·left;rw[←h];exact hk
   ·right
    rw[hk] at h
    injection h with h
    have:=A1.out.size
    omega
  ·have h1:(w2.setCell ⟨g,0,none⟩ (.slice A' (j+1) c')).heap[k]? =w2.heap[k]? :=Below.heap_setCell _ _ _ _ (fun e=>hne e)
   rw[h1]
   exact(G2.out.block k (Nat.lt_of_lt_of_le hk A1.out.size) (fun e=>hno e.symm)).trans (A1.out.block k hk)
def gapT:Int→List Ex→List Ex
 |_,[]=> []
 |f,x::r=>gap f x.lba++gapT x.en r
theorem gapT_app (f:Int) (a:List Ex) (x:Ex):gapT f (a++ [x])=gapT f a++gap (endF f a) x.lba:=by
 induction a generalizing f with
 |nil=>show gap f x.lba++ []= []++gap f x.lba;rw[List.append_nil,List.nil_append]
 |cons y r ih=>rw[List.cons_append,gapT,ih,gapT,endF,List.append_assoc]
theorem gapF_T (t f:Int) (p:List Ex):gapF t f p=gapT f p++gap (endF f p) t:=by
 induction p generalizing f with
 |nil=>rfl
 |cons y r ih=>rw[gapF,ih,gapT,endF,List.append_assoc]
theorem gapT_len (f:Int) (p:List Ex) (k:Nat):(gapT f (p.take k)).length≤p.length+1:=by
 have h1:=gaps_len 0 f (p.take k)
 rw[gapF_T,List.length_append] at h1
 have:(p.take k).length≤p.length:=by rw[List.length_take];omega
 omega
def gapsP (l:List Ex) (a k:Int):List Ex:=gapF (a+k) a (clips a (a+k) l)
theorem gaps_any {A:Option Addr} {n c:Nat} {l:List Ex} {w:World} (hA:RowL w A n c l) (hl:Ok 0 l) (hn:n≤1000000) (a k:Int) (hk:k≤9223372036854775807):
  Calls Tryz.prog 68 #[.slice A n c,.int .i64 a,.int .i64 k] w (GaveE w (bif rangeB a k then gapsP l a k else []) (errOf (rangeB a k))):=by
 have HA:=Lib.hid hA
 have HP:=fun w (h:RowL w A n c l)=>Lib.hid (part_any h hl hn a k hk)
 have HPL:Hid ((clips a (a+k) l).length≤1000000):=by have:=clips_len a (a+k) l;have:=hA.len;show _≤_;omega
 have HPO:Hid (Ok a (clips a (a+k) l)):=ok_clips hl (by omega)
 clear hA hl
 rcases hr:rangeB a k
 ·rw[hr] at HP
  clear hr
  have he:errOf false=1:=rfl
  simp only[he,cond_false] at*
  go_enter Tryz.func68,Tryz.ntmps68
  go_wp2_with fail
  refine(HP w HA.out).out.mono ?_
  rintro e w2 ⟨⟨B,m,d,rfl,hO⟩,hb⟩
  have L2:=Lib.hid hb
  clear hO hb
  go_wp2_with fail
  go_ret2
  exact⟨⟨_,_,_,rfl,OwnsL.nil _ _⟩,L2.out⟩
 ·obtain⟨r1,r2,r3⟩:=rangeB_iff.1 hr
  have HRG:=Lib.hid (And.intro r1 (And.intro r2 r3))
  have hw:IntKind.i64.wrap (a+k)=a+k:=wrap_small (by omega) (by omega)
  rw[hr] at HP
  clear hr r1 r2 r3
  have he:errOf true=0:=rfl
  have HGP:Hid (gapsP l a k=gapF (a+k) a (clips a (a+k) l)):=rfl
  simp only[he,cond_true] at*
  generalize gapsP l a k=R at*
  generalize clips a (a+k) l=P at*
  go_enter Tryz.func68,Tryz.ntmps68
  go_wp2_with fail
  refine(HP w HA.out).out.mono ?_
  rintro e w2 ⟨⟨B,m,d,rfl,hO⟩,hb⟩
  have L2:=Lib.hid hb
  have hm:m≤1000000:=by have:=hO.2;have:=HPL.out;omega
  have hml:=Lib.hid hO.2
  have R2:=Lib.hid (OwnsL.row hO (by omega))
  clear hO hb HP
  have hne:w2.heap.size+1≠w2.heap.size:=by omega
  have L3:Hid (Below w2.heap.size w2 ((w2.alloc (.cells #[.slice none 0 0] 30)).alloc (.cells #[.int .i64 a] 3))):=((Below.refl _ w2).alloc (Nat.le_refl _) _).alloc (by simp) _
  have G3:Hid (Cells ((w2.alloc (.cells #[.slice none 0 0] 30)).alloc (.cells #[.int .i64 a] 3)) w2.heap.size 30 #[.slice none 0 0]):=Cells.alloc (Cells.new _ _ _) _
  have Q3:Hid (OneBox ((w2.alloc (.cells #[.slice none 0 0] 30)).alloc (.cells #[.int .i64 a] 3)) (w2.heap.size+1) 3 (.int .i64 a)):=by
   have h:=Cells.new (w2.alloc (.cells #[.slice none 0 0] 30)) #[.int .i64 a] 3
   show OneBox _ _ _ _
   simpa using h
  go_upto_region 7 with fail
  generalize(w2.alloc (.cells #[.slice none 0 0] 30)).alloc (.cells #[.int .i64 a] 3)=w3 at*
  clear hw
  have hbig:m≤140737488351232:=by omega
  go_wp2_with fail
  go_loopw [14,29] (fun _ i wr=>∃(t:Nat),i= .int .i64 t∧t≤m∧Hid (Below w2.heap.size w2 wr∧(∃X j d,Cells wr w2.heap.size 30 #[.slice X j d]∧OwnsL w2.heap.size wr (.slice X j d) j (gapT a (P.take t)))∧OneBox wr (w2.heap.size+1) 3 (.int .i64 (endF a (P.take t))))) (fun _ i _=>m-(intOf i).toNat)
  case atStart=>exact⟨0,rfl,by omega,L3.out,⟨none,0,0,G3.out,OwnsL.nil _ _⟩,Q3.out⟩
  case round=>
   obtain⟨t,rfl,ht,hH⟩:=hrel
   obtain⟨h1,⟨X,j,dd,h2,h3⟩,h4⟩:=hH.out
   have LR:=Lib.hid h1
   have GR:=Lib.hid h2
   have OR:=Lib.hid h3
   have QR:=Lib.hid h4
   have HJ:Hid (j≤3000000):=by have:=h3.2;have:=gapT_len a P t;have:=HPL.out;show _≤_;omega
   have HF:Hid (0≤endF a (P.take t)∧endF a (P.take t)≤1099511627776):=by
    have:=endF_in (ok_take HPO.out t) (by have:=HRG.out;omega)
    have:=HRG.out.1
    show _∧_
    omega
   clear h1 h2 h3 h4 hH
   by_cases hlt:t<m
   ·obtain⟨x,hx⟩:=R2.out.get hlt
    obtain⟨b,o,hA,d0,d1,d2,d3,d4⟩:=RowS.ext_at (R2.out.below LR.out) hx
    subst hA
    have HMX:=Lib.hid (HPO.out.at_ hx).1
    have hk0:(0:Int)≤(t:Int):=by omega
    have hkn:(t:Int)<(m:Int):=by omega
    have HT:Hid (gapT a (P.take (t+1))=gapT a (P.take t)++gap (endF a (P.take t)) x.lba):=by show _=_;rw[take_snoc hx,gapT_app]
    have HEN:Hid (endF a (P.take (t+1))=x.en):=by show _=_;rw[take_snoc hx,endF_app];rfl
    have HE:=fun w=>Lib.hid (end_any x HMX.out w)
    clear hx
    generalize endF a (P.take t)=f at*
    generalize gapT a (P.take t)=GT at*
    have A4:Hid (Below wr.heap.size wr (wr.alloc (.cells #[.int .i64 x.lba,.int .i64 x.n,.int .i64 x.ver,.int .i64 x.zone,.int .i64 x.off] 60))):=(Below.refl _ wr).alloc (Nat.le_refl _) _
    have B4:Hid (LBox (wr.alloc (.cells #[.int .i64 x.lba,.int .i64 x.n,.int .i64 x.ver,.int .i64 x.zone,.int .i64 x.off] 60)) wr.heap.size x):=Cells.new _ _ _
    obtain⟨n0,n1,n2,n3,n4⟩:=LBox.cells B4.out
    go_upto_region 10 with fail
    generalize wr.alloc (.cells #[.int .i64 x.lba,.int .i64 x.n,.int .i64 x.ver,.int .i64 x.zone,.int .i64 x.off] 60)=w4 at*
    clear d0 d1 d2 d3 d4
    have G4:=Lib.hid (Cells.below GR.out A4.out)
    have O4:=Lib.hid (OwnsL.below OR.out A4.out)
    have Q4:=Lib.hid (Cells.below QR.out A4.out)
    have L4:=Lib.hid (LR.out.trans (A4.out.mono LR.out.size))
    have NE:Hid (wr.heap.size≠w2.heap.size∧(Value.slice X j dd).ownBlock≠some wr.heap.size):=⟨by have:=Cells.lt GR.out;omega,fun e=>by have h1:=(OwnsL.lt OR.out _ e).2;omega⟩
    go_wp2_with fail
    refine(upTo_any G4.out O4.out Q4.out (Nat.le_refl _) HJ.out HF.out.1 HF.out.2 HMX.out.1 (by have:=en_lt HMX.out;have:=en_le HMX.out;omega)).mono ?_
    rintro e w5 ⟨rfl,⟨X',j',d',hG,hO,-⟩,hQ,hb,hfr⟩
    have X5:Hid (LBox w5 wr.heap.size x):=(hfr _ (Cells.lt B4.out) NE.out.1 NE.out.2).trans B4.out
    have G5:=Lib.hid hG
    have O5:=Lib.hid hO
    have Q5:=Lib.hid hQ
    have L5:=Lib.hid (L4.out.trans hb)
    clear hG hO hQ hb hfr n0 n1 n2 n3 n4
    obtain⟨n0,n1,n2,n3,n4⟩:=LBox.cells X5.out
    go_upto_region 11 with fail
    go_wp2_with (go_at_call 67;refine(HE _).out.mono ?_;rintro e' w6 ⟨rfl,hb⟩;have L6:=Lib.hid (L5.out.trans (hb.mono L5.out.size));have G6:=Lib.hid (Cells.below G5.out hb);have O6:=Lib.hid (OwnsL.below O5.out hb);have Q6:=Lib.hid (Cells.below Q5.out hb);clear hb;have p1:w6.cell? ⟨w2.heap.size+1,0,none⟩=some (.int .i64 f):=Cells.cell Q6.out 0;have p2:w6.frozen? ⟨w2.heap.size+1,0,none⟩=false:=Cells.frozen Q6.out 0)
    go_roundw
    case rel=>
     refine⟨t+1,by go_num,by omega,belowk L6.out (Nat.le_succ _) 0 _,⟨X',j',d',Cells.set_other G6.out hne 0 _,?_⟩,?_⟩
     ·rw[HT.out]
      exact OwnsL.kept O6.out (But.set1 _ _ 0 _).by_ (.inr (own_far O6.out Q6.out (by decide)))
     ·rw[HEN.out]
      exact Cells.set_ Q6.out 0 _
    case measure=>simp[intOf];omega
   ·have hkn:P.take t=P:=List.take_of_length_le (by have:=hml.out;omega)
    rw[hkn] at OR QR HF
    clear hkn
    have hw:IntKind.i64.wrap (a+k)=a+k:=wrap_small (by have:=HRG.out;omega) (by have:=HRG.out;omega)
    go_wp2_with fail
    refine(upTo_any GR.out OR.out QR.out (Nat.le_refl _) HJ.out HF.out.1 HF.out.2 (by have:=HRG.out;omega) HRG.out.2.2).mono ?_
    rintro e w5 ⟨rfl,⟨X',j',d',hG,hO,-⟩,hQ,hb,-⟩
    have m5:w5.cell? ⟨w2.heap.size,0,none⟩=some (.slice X' j' d'):=Cells.cell hG 0
    have L5:=Lib.hid (L2.out.trans ((LR.out.trans hb).mono L2.out.size))
    have O5:=Lib.hid (hO.mono L2.out.size)
    clear hG hO hQ hb
    go_wp2_with fail
    go_ret2
    refine⟨⟨_,_,_,rfl,?_⟩,L5.out⟩
    rw[HGP.out,gapF_T]
    exact O5.out
end Ext
end
section
open Go.RowKit Mem Ext Go.Shelf Go.Sort Stab
namespace Vm
def cmpB (s t:Tg):Int:=cmpI s.1.lba t.1.lba
theorem sortB_any {base:Nat} {w:World} {A:Option Addr} {n c:Nat} {l:List Ex} (h:OwnsL base w (.slice A n c) n l) (hb:base≤w.heap.size) (hn:n≤1000000):
  Calls Tryz.prog 69 #[.slice A n c,.func (.func 70) #[] #[]] w fun e w'=>e= .returned (.tuple #[])∧(∃r,OwnsL base w' (.slice A n c) n r∧r.Perm l∧r.Pairwise fun x y=>x.lba≤y.lba)∧Below base w w':=by
 have hlen:l.length=n:=h.2
 rcases Nat.eq_zero_or_pos n with h0|h0
 ·subst h0
  have hl0:l= []:=List.eq_nil_of_length_eq_zero hlen
  refine Calls.mono (show Calls Tryz.prog 69 _ _ _ from AnyF.slices_SortFunc_none laysSort A c (.func (.func 70) #[] #[]) w) (fun e w' ⟨h1,h2⟩=> ?_)
  subst h2
  exact⟨h1,⟨l,h,List.Perm.refl _,by rw[hl0];exact List.Pairwise.nil⟩,Below.refl _ _⟩
 ·rcases h.1.2 with⟨-,h1⟩|⟨g,cap,cur,hs,hbg,hg,hnc,hcm,hsz,ht⟩
  ·omega
  ·injection hs with e1 _ e3
   subst e1 e3
   obtain⟨d,hd⟩:∃d:Array Tg,d=l.zipIdx.toArray:=⟨_,rfl⟩
   have hdn:d.size=n:=by rw[hd];simpa using hlen
   have hH:HoldsK cellsT 5 w g 0 d:=by
    rw[hd]
    refine holds_flat hg ?_
    rw[cells_tag,List.length_zipIdx,hlen];exact ht
   have hlt:g<w.heap.size:=(Array.getElem?_eq_some_iff.1 hg).1
   have eg:∀args w,(callFunc 70 args).run Tryz.prog w= .ok (.enter 70 args) w:=enters_of Tryz.func70 (by kernel_rfl) rfl
   have hsort:=AnyQ.slices_SortFunc laysSort 5 Tryz.isAgg60 Tryz.sizeOf60 cellsT enc5 one5 cmpB (cmpI_swo fun t:Tg=>t.1.lba) 70 #[] g 0 c d w eg (fun _ _ _ _ x y=>look1_any x.1 y.1 _) hH hlt (by omega)
   rw[hdn] at hsort
   refine Calls.mono (show Calls Tryz.prog 69 _ _ _ from hsort) (fun e w' ⟨h1,d',k,os,hp,hso,hw⟩=> ?_)
   have hds:d'.size=n:=by rw[hp.1];exact hdn
   obtain⟨o1,o2⟩:=own_world hbg hg hnc hcm hsz hds hw hb
   refine⟨h1,⟨_,o1,?_,?_⟩,o2⟩
   ·have h2:=hp.2.2
    have e1:d'.extract 0 n=d':=by rw[←hds];exact Array.extract_size
    have e2:d.extract 0 n=d:=by rw[←hdn];exact Array.extract_size
    rw[e1,e2] at h2
    have h3:d'.toList.Perm l.zipIdx:=by rw[hd] at h2;simpa using h2
    have:=h3.map Prod.fst
    rwa [List.zipIdx_map_fst] at this
   ·rw[List.pairwise_iff_getElem]
    intro i j h3 h4 h5
    have hi:i<d'.size:=by simpa using h3
    have hj:j<d'.size:=by simpa using h4
    have h6:=hso i j (Nat.zero_le _) h5 (by omega)
    rw[getElem!_pos d' j hj,getElem!_pos d' i hi] at h6
    have h7:decide (cmpI (d'[j]).1.lba (d'[i]).1.lba<0)=false:=h6
    rw[cmpI_lt,decide_eq_false_iff_not] at h7
    simp only[List.getElem_map,Array.getElem_toList]
    omega
end Vm
end
section
open Mem
namespace Ext
abbrev B8:=BitVec 8
def mixF (t:Int):Int→List Ex→List Ex
 |f,[]=>gap f t
 |f,x::r=>gap f x.lba++x::mixF t x.en r
theorem mix_perm (t:Int):∀(p:List Ex) (f:Int),(mixF t f p).Perm (p++gapF t f p)
 | [],f=>List.Perm.refl _
 |x::r,f=>by
  show(gap f x.lba++x::mixF t x.en r).Perm ((x::r)++(gap f x.lba++gapF t x.en r))
  exact(((mix_perm t r x.en).cons x).append_left (gap f x.lba)).trans (List.perm_append_comm_assoc _ (x::r) _)
def Full:Int→Int→List Ex→Prop
 |f,t,[]=>f=t
 |f,t,x::r=>x.lba=f∧MayX x∧Full x.en t r
theorem full_append {f s t:Int} {a b:List Ex} (ha:Full f s a) (hb:Full s t b):Full f t (a++b):=by
 induction a generalizing f with
 |nil=>rw[show f=s from ha];exact hb
 |cons x r ih=>exact⟨ha.1,ha.2.1,ih ha.2.2⟩
theorem full_gap {f t:Int} (h0:0≤f) (hft:f≤t) (ht:t≤1099511627776):Full f t (gap f t):=by
 unfold gap
 rcases e:decide (f<t)
 ·rw[decide_eq_false_iff_not] at e
  show f=t
  omega
 ·rw[decide_eq_true_eq] at e
  refine⟨rfl,⟨h0,by show 1≤t-f;omega,by show f+(t-f)≤_;omega,Int.le_refl _,.inl ⟨rfl,rfl⟩⟩,?_⟩
  show f+(t-f)=t
  omega
theorem mix_full {t:Int} (ht:t≤1099511627776):∀(p:List Ex) (f:Int),Ok f p→Ends t p→0≤f→f≤t→Full f t (mixF t f p)
 | [],f,_,_,h0,hft=>full_gap h0 hft ht
 |x::r,f,ho,he,h0,hft=>by
  obtain⟨h1,h2,h3⟩:=ho
  have h4:=en_lt h1
  have h5:=he x (by simp)
  exact full_append (full_gap h0 h2 (by omega)) ⟨rfl,h1,mix_full ht r x.en h3 (fun y hy=>he y (by simp[hy])) (by omega) h5⟩
theorem Full.ok {f t:Int} {l:List Ex} (h:Full f t l):Ok f l:=by
 induction l generalizing f with
 |nil=>trivial
 |cons x r ih=>exact⟨h.2.1,by rw[h.1];exact Int.le_refl _,ih h.2.2⟩
theorem Full.le {f t:Int} {l:List Ex} (h:Full f t l):f≤t:=by
 induction l generalizing f with
 |nil=>rw[show f=t from h];exact Int.le_refl _
 |cons x r ih=>have:=ih h.2.2;have:=en_lt h.2.1;have:=h.1;omega
theorem ok_one_at {f:Int} {l:List Ex} (h:Ok f l):∀a∈l,∀b∈l,a.lba=b.lba→a=b:=by
 induction l generalizing f with
 |nil=>intro a ha;cases ha
 |cons x r ih=>
  have h1:=en_lt h.1
  have h2:=h.2.2.from
  intro a ha b hb e
  rcases List.mem_cons.1 ha with q1|q1<;>rcases List.mem_cons.1 hb with q2|q2
  ·rw[q1,q2]
  ·rw[q1] at e;have:=h2 b q2;omega
  ·rw[q2] at e;have:=h2 a q1;omega
  ·exact ih h.2.2 a q1 b q2 e
theorem ok_pairwise {f:Int} {l:List Ex} (h:Ok f l):l.Pairwise fun x y=>x.lba≤y.lba:=by
 induction l generalizing f with
 |nil=>exact List.Pairwise.nil
 |cons x r ih=>
  have h1:=en_lt h.1
  exact List.pairwise_cons.2 ⟨fun y hy=>by have:=h.2.2.from y hy;omega,ih h.2.2⟩
theorem sorted_mix {t f:Int} {p r:List Ex} (ht:t≤1099511627776) (ho:Ok f p) (he:Ends t p) (h0:0≤f) (hft:f≤t) (hp:r.Perm (p++gapF t f p)) (hs:r.Pairwise fun x y=>x.lba≤y.lba):r=mixF t f p:=by
 have h1:=(mix_full ht p f ho he h0 hft).ok
 have h2:r.Perm (mixF t f p):=hp.trans (mix_perm t p f).symm
 exact List.Perm.eq_of_pairwise (fun a b ha hb x y=>ok_one_at h1 a (h2.mem_iff.1 ha) b hb (by omega)) hs (ok_pairwise h1) h2
theorem jn_full {f t:Int}:∀(r:List Ex) (z:Ex),Full f t (z::r)→Full f t (jn z r)
 | [],z,h=>h
 |x::r,z,h=>by
  rw[jn]
  rcases e:goB z x
  ·exact⟨h.1,h.2.1,jn_full r x h.2.2⟩
  ·refine jn_full r (grow z x.n) ⟨h.1,grow_may e h.2.1 h.2.2.2.1,?_⟩
   rw[grow_en e]
   exact h.2.2.2.2
theorem join_full {f t:Int} {l:List Ex} (h:Full f t l):Full f t (joinE l):=by
 cases l with
 |nil=>exact h
 |cons x r=>exact jn_full r x h
theorem mix_tell {t:Int} (ht:t≤1099511627776):∀(p:List Ex) (f:Int),Ok f p→Ends t p→0≤f→f≤t→∀j,f≤j→j<t→tell (mixF t f p) j=some ((tell p j).getD (0,-1,0))
 | [],f,_,_,_,_,j,h1,h2=>by
   show tell (gap f t) j=_
   rw[gap_tell,if_pos ⟨h1,h2⟩];rfl
 |x::r,f,ho,he,h0,hft,j,h1,h2=>by
  obtain⟨a1,a2,a3⟩:=ho
  have h4:=en_lt a1
  have h5:=he x (by simp)
  show tell (gap f x.lba++x::mixF t x.en r) j=_
  rw[tell_append,gap_tell]
  by_cases hj:j<x.lba
  ·rw[if_pos ⟨h1,hj⟩,tell_low (show Ok x.lba (x::r) from⟨a1,Int.le_refl _,a3⟩) hj];rfl
  ·rw[if_neg (by omega)]
   show tell (x::mixF t x.en r) j=_
   rw[tell,tell]
   by_cases hx:has x j
   ·rw[if_pos hx,if_pos hx];rfl
   ·rw[if_neg hx,if_neg hx]
    have:x.en≤j:=by unfold has at hx;omega
    exact mix_tell ht r x.en a3 (fun y hy=>he y (by simp[hy])) (by omega) h5 j this h2
def lookP (l:List Ex) (a k:Int):List Ex:=joinE (mixF (a+k) a (clips a (a+k) l))
section
variable {l:List Ex} {a k:Int}
theorem look_full (hl:Ok 0 l) (hr:rangeB a k=true):Full a (a+k) (lookP l a k):=by
 have:=rangeB_iff.1 hr
 exact join_full (mix_full (by omega) _ _ (ok_clips hl (by omega)) (ends_clips _ _ _) (by omega) (by omega))
theorem look_tell (hl:Ok 0 l) (hr:rangeB a k=true) {j:Int} (h1:a≤j) (h2:j<a+k):tell (lookP l a k) j=some ((tell l j).getD (0,-1,0)):=by
 have:=rangeB_iff.1 hr
 have hc:Ok a (clips a (a+k) l):=ok_clips hl (by omega)
 unfold lookP
 rw[join_tell (mix_full (by omega) _ _ hc (ends_clips _ _ _) (by omega) (by omega)).ok,mix_tell (by omega) _ _ hc (ends_clips _ _ _) (by omega) (by omega) j h1 h2,tell_clips hl,if_pos ⟨h1,h2⟩]
end
theorem fm_congr {α β:Type} {l:List α} {f g:α→List β} (h:∀x∈l,f x=g x):l.flatMap f=l.flatMap g:=by
 induction l with
 |nil=>rfl
 |cons x r ih=>rw[List.flatMap_cons,List.flatMap_cons,h x (by simp),ih fun y hy=>h y (by simp[hy])]
def blkB (dat:Int→List B8) (b:Int × Int × Int):List B8:=if b.2.1= -1 then List.replicate 16 0#8 else((dat b.2.1).drop b.2.2.toNat).take 16
def extB (dat:Int→List B8) (x:Ex):List B8:=if x.zone= -1 then List.replicate (16*x.n.toNat) 0#8 else((dat x.zone).drop x.off.toNat).take (16*x.n.toNat)
theorem run_blocks (dat:Int→List B8) (x:Ex) (ho:x.zone= -1∨0≤x.off):∀n:Nat,(if x.zone= -1 then List.replicate (16*n) 0#8 else((dat x.zone).drop x.off.toNat).take (16*n))=(List.range n).flatMap fun(i:Nat)=>blkB dat (blk x (x.lba+(i:Int)))
 |0=>by simp
 |n+1=>by
  rw[List.range_succ,List.flatMap_append,←run_blocks dat x ho n]
  have e:16*(n+1)=16*n+16:=by omega
  rw[e]
  simp only[List.flatMap_cons,List.flatMap_nil,List.append_nil]
  unfold blkB blk
  dsimp only
  by_cases hz:x.zone= -1
  ·rw[if_pos hz,if_pos hz,if_pos hz,List.replicate_append_replicate]
  ·rw[if_neg hz,if_neg hz,if_neg hz,if_neg hz,List.take_add,List.drop_drop]
   congr 3
   have:0≤x.off:=by omega
   omega
theorem ext_blocks (dat:Int→List B8) {x:Ex} (h:MayX x):extB dat x=(List.range x.n.toNat).flatMap fun(i:Nat)=>blkB dat (blk x (x.lba+(i:Int))):=by
 obtain⟨-,-,-,-,h5⟩:=h
 exact run_blocks dat x (by omega) _
theorem full_blocks (dat:Int→List B8):∀(X:List Ex) (f t:Int),Full f t X→X.flatMap (extB dat)=(List.range (t-f).toNat).flatMap fun(i:Nat)=>blkB dat ((tell X (f+(i:Int))).getD (0,-1,0))
 | [],f,t,h=>by rw[show f=t from h,Int.sub_self];rfl
 |x::r,f,t,h=>by
  obtain⟨h1,h2,h3⟩:=h
  have hl:=en_lt h2
  have hle:=h3.le
  have hn:(t-f).toNat=x.n.toNat+(t-x.en).toNat:=by unfold Ex.en at*;omega
  rw[List.flatMap_cons,ext_blocks dat h2,full_blocks dat r x.en t h3,hn,List.range_add,List.flatMap_append,List.flatMap_map]
  congr 1
  ·refine fm_congr fun i hi=> ?_
   rw[List.mem_range] at hi
   have hx:has x (f+(i:Int)):=by unfold has Ex.en;omega
   rw[tell,if_pos hx,h1];rfl
  ·refine fm_congr fun i hi=> ?_
   rw[List.mem_range] at hi
   have hx:¬has x (f+((x.n.toNat+i:Nat):Int)):=by unfold has Ex.en;omega
   have e:f+((x.n.toNat+i:Nat):Int)=x.en+(i:Int):=by unfold Ex.en;have:=h2.2.1;omega
   rw[tell,if_neg hx,e]
end Ext
end
section
open Go.RowKit Mem Ext
namespace Vm
theorem merge_any {A:Option Addr} {n c:Nat} {ps:List Piece} {w:World} (h:Row Piece.val w A n c ps) (hp:∀p∈ps,RowL w p.A p.n p.c p.l) (hm:∀x∈joined ps,MayX x) (ht:(joined ps).length≤60) (ht2:total ps≤2000000):
  Calls Tryz.prog 97 #[.slice none 0 0,.slice A n c] w fun e w'=>∃m,Offd (joined ps) m∧GaveE w m 0 e w':=by
 have HC:=Lib.hid (concat_any h hp ht2)
 have HM:=Lib.hid hm
 have HT:=Lib.hid ht
 clear h hp hm ht ht2
 go_enter Tryz.func97,Tryz.ntmps97
 go_wp2_with (first
  |(go_at_call 134;refine HC.out.mono ?_;rintro e w2 ⟨⟨B,k,d,rfl,hO⟩,hb⟩;have O2:=Lib.hid hO;have L2:=Lib.hid hb;clear hO hb)
  |(have hkk:k≤60:=by have:=O2.out.2;have:=HT.out;omega
    go_at_call 95;refine(offer_any (OwnsL.row O2.out (by omega)) HM.out hkk).mono ?_;rintro e w3 ⟨m,hof,⟨B3,k3,d3,rfl,hO⟩,hb⟩;have O3:=Lib.hid (OwnsL.mono hO L2.out.size);have L3:=Lib.hid (L2.out.trans (hb.mono L2.out.size));have F3:=Lib.hid hof;clear hO hb hof))
 go_ret2
 exact⟨m,F3.out,⟨B3,k3,d3,rfl,O3.out⟩,L3.out⟩
theorem look_any {A:Option Addr} {n c:Nat} {l:List Ex} {w:World} (hA:RowL w A n c l) (hl:Ok 0 l) (hn:n≤100000) {a k:Int} (hr:rangeB a k=true):
  Calls Tryz.prog 37 #[.slice A n c,.int .i64 a,.int .i64 k] w (GaveE w (lookP l a k) 0):=by
 have hr2:=rangeB_iff.1 hr
 have hk:k≤9223372036854775807:=by omega
 have HP:=Lib.hid (part_any hA hl (by omega) a k hk)
 have HG:=fun w (h:RowL w A n c l)=>Lib.hid (gaps_any h hl (by omega) a k hk)
 rw[hr] at HP HG
 have e0:errOf true=0:=rfl
 rw[e0] at HP HG
 simp only[cond_true] at HP HG
 have HA:=Lib.hid hA
 have hcl:=clips_len a (a+k) l
 have hgl:(gapsP l a k).length≤(clips a (a+k) l).length+1:=gaps_len _ _ _
 have hln:=hA.len
 have HLE:Hid ((clips a (a+k) l).length≤100000∧(gapsP l a k).length≤100001):=⟨by omega,by omega⟩
 have hcok:Ok a (clips a (a+k) l):=ok_clips hl (by omega)
 have HS:=fun r (h1:r.Perm (clips a (a+k) l++gapsP l a k)) (h2:r.Pairwise fun x y:Ex=>x.lba≤y.lba)=>Lib.hid (show Ok 0 r∧joinE r=lookP l a k from by
  have e:=sorted_mix (t:=a+k) (f:=a) (by omega) hcok (ends_clips _ _ _) (by omega) (by omega) h1 h2
  have ho:=(mix_full (t:=a+k) (by omega) _ _ hcok (ends_clips _ _ _) (by omega) (by omega)).ok
  rw[e]
  exact⟨ho.low (by omega),rfl⟩)
 clear hA hl hn hr hr2 hk e0 hcl hgl hln hcok
 generalize clips a (a+k) l=C at*
 generalize gapsP l a k=G at*
 generalize lookP l a k=R at*
 go_enter Tryz.func37,Tryz.ntmps37
 go_wp2_with (first
  |(go_at_call 42;refine HP.out.mono ?_;rintro e w2 ⟨⟨B,m,d,rfl,hO⟩,hb⟩;have O2:=Lib.hid hO;have L2:=Lib.hid hb;clear hO hb)
  |(go_at_call 68;refine(HG w2 (HA.out.below L2.out)).out.mono ?_;rintro e w3 ⟨⟨B3,m3,d3,rfl,hO⟩,hb⟩;have O3:=Lib.hid hO;have P3:=Lib.hid (OwnsL.below O2.out hb);have L3:=Lib.hid (L2.out.trans (hb.mono L2.out.size));clear hO hb)
  |(refine wpList_append_l rfl (.tmp 29) (.tmp 30) rfl rfl w.heap.size (.slice B m d) m C rfl P3.out B3 m3 d3 G rfl (OwnsL.row O3.out (by have:=O3.out.2;have:=HLE.out;omega)) (by have:=O3.out.2;have:=P3.out.2;have:=HLE.out;omega) L3.out.size ?_
    intro B4 d4 w4 h4 h5 h6
    generalize m+m3=m4 at*
    have O4:=Lib.hid h4
    have L4:=Lib.hid (L3.out.grown h5 L3.out.size (fun q hq=>(OwnsL.lt P3.out q hq).1))
    clear h4 h5 h6)
  |(go_at_call 69;refine(sortB_any O4.out L4.out.size (by have h:=O4.out.2;have:=HLE.out;rw[List.length_append] at h;omega)).mono ?_;rintro e w5 ⟨rfl,⟨r,hO,hp,hw⟩,hb⟩;have O5:=Lib.hid hO;have L5:=Lib.hid (L4.out.trans hb);have R5:=HS r hp hw;clear hO hb hp hw)
  |(go_at_call 72;refine(join_any (OwnsL.row O5.out (by have h:=O4.out.2;have:=HLE.out;rw[List.length_append] at h;omega)) R5.out.1 (by have h:=O4.out.2;have:=HLE.out;rw[List.length_append] at h;omega)).mono ?_;rw[R5.out.2];rintro e w6 ⟨⟨B6,m6,d6,rfl,hO⟩,hb⟩;have O6:=Lib.hid (OwnsL.mono hO L5.out.size);have L6:=Lib.hid (L5.out.trans (hb.mono L5.out.size));clear hO hb))
 go_ret2
 exact⟨⟨B6,m6,d6,rfl,O6.out⟩,L6.out⟩
end Vm
end
end Go.Proofs.YtmkagjnkpjpjcaaGreat
