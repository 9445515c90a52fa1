/-
  SEVERAL TEXTS IN ONE FILE: PRunM, PRunLiveP, PRunLive.
-/
import Derived.Test.YtmkagjnkpjpjcaaGreatJ18
import Derived.Test.YtmkagjnkpjpjcaaGreatJ11
import Derived.Test.YtmkagjnkpjpjcaaGreatJ14
import Derived.Test.YtmkagjnkpjpjcaaGreatJ09
import Derived.Test.YtmkagjnkpjpjcaaGreatJ02
import Derived.Lib.SlBytesConst
namespace Go.Proofs.YtmkagjnkpjpjcaaGreat
set_option maxRecDepth 100000
set_option linter.unusedSimpArgs false
set_option linter.unusedVariables false
set_option maxHeartbeats 3200000
section
open Go.RowKit Mem Box Zns
namespace Rp
open Seg (Hdr Rc Rv cellsOf RowR hdV fits nums hnums nn frame headX recX frames check)
open Pk (Pp Px pxv PackAt OwnP zoneOf placeR flen places addP moreP behindP fitsP errB OkP beginP Apd Fre Did2)
open Zon (Zn Zv B8 nilZ cellsZ)
open GM (FMap getB setB Ky)
structure Wr where
 zone:Int
 lba:Int
 n:Int
 by_:B8
 trim:Bool
def cellsW (x:Wr):List Value:= [.int .i64 x.zone,.int .i64 x.lba,.int .i64 x.n,cb x.by_,.bool x.trim]
abbrev MPk (w:World) (r:Nat) (ks:List (Int × Px)):Prop:=FMap (Value.int .i64) (fun _:Int=>True) pxv w r ks
abbrev MWt (w:World) (r:Nat) (ks:List (Int × List B8)):Prop:=FMap (Value.int .i64) (fun _:Int=>True) (fun l:List B8=>Value.string (str l)) w r ks
theorem kyI:Ky Tryz.prog 3 (Value.int .i64) (fun _:Int=>True):=GM.ky_int Tryz.underlying3
theorem zero_pack (w:World):(zeroValue 78).run Tryz.prog w= .ok (.agg #[.int .i64 0,.int .i64 0,.int .i64 0,.int .i64 0,.int .i64 0,.int .i64 0,.slice none 0 0,.slice none 0 0]) w:=by kernel_rfl
theorem zero_str (w:World):(zeroValue 9).run Tryz.prog w= .ok (.string ByteArray.empty) w:=by kernel_rfl
section
variable {w:World} {r:Nat}
theorem getPk_none {ks:List (Int × Px)} (h:MPk w r ks) {z:Int} (hz:getB ks z=none):(Instr.lookup 76 (.map (some r)) (.int .i64 z) true).run Tryz.prog w= .ok (.tuple #[.agg #[.int .i64 0,.int .i64 0,.int .i64 0,.int .i64 0,.int .i64 0,.int .i64 0,.slice none 0 0,.slice none 0 0],.bool false]) w:=by
 have:=GM.run_get_ok kyI Tryz.underlying76 h (zero_pack w) (n:=z) trivial
 rw[hz] at this
 exact this
theorem getPk_some {ks:List (Int × Px)} (h:MPk w r ks) {z:Int} {y:Px} (hz:getB ks z=some y):(Instr.lookup 76 (.map (some r)) (.int .i64 z) true).run Tryz.prog w= .ok (.tuple #[.agg #[.int .i64 y.p.h.host,.int .i64 y.p.h.epoch,.int .i64 y.p.h.seq,.int .i64 y.p.zone,.int .i64 y.p.cap,.int .i64 y.p.at_,.slice y.B y.p.buf.length y.bc,.slice y.L y.p.l.length y.lc],.bool true]) w:=by
 have:=GM.run_get_ok kyI Tryz.underlying76 h (zero_pack w) (n:=z) trivial
 rw[hz] at this
 exact this
theorem putPk {ks:List (Int × Px)} (h:MPk w r ks) (z:Int) (y:Px):∃w',(Instr.mapUpdate 76 (.map (some r)) (.int .i64 z) (.agg #[.int .i64 y.p.h.host,.int .i64 y.p.h.epoch,.int .i64 y.p.h.seq,.int .i64 y.p.zone,.int .i64 y.p.cap,.int .i64 y.p.at_,.slice y.B y.p.buf.length y.bc,.slice y.L y.p.l.length y.lc])).run Tryz.prog w= .ok () w'∧MPk w' r (setB ks z y)∧Mov [r] w w'∧w'.heap.size=w.heap.size:=
 GM.run_put kyI Tryz.underlying76 h (n:=z) trivial y
theorem putWt {ks:List (Int × List B8)} (h:MWt w r ks) (z:Int) (l:List B8):∃w',(Instr.mapUpdate 27 (.map (some r)) (.int .i64 z) (.string (str l))).run Tryz.prog w= .ok () w'∧MWt w' r (setB ks z l)∧Mov [r] w w'∧w'.heap.size=w.heap.size:=
 GM.run_put kyI Tryz.underlying27 h (n:=z) trivial l
theorem getWt {ks:List (Int × List B8)} (h:MWt w r ks) (z:Int):(Instr.lookup 27 (.map (some r)) (.int .i64 z) true).run Tryz.prog w= .ok (.tuple #[((getB ks z).map fun l:List B8=>Value.string (str l)).getD (.string ByteArray.empty),.bool (getB ks z).isSome]) w:=
 GM.run_get_ok kyI Tryz.underlying27 h (zero_str w) (n:=z) trivial
end
theorem row_any0 {α:Type} {f:α→Value} {w W:World} {A:Option Addr} {n c:Nat} {l:List α} (h:Row f w A n c l) (h0:n=0):Row f W A n c l:=⟨h.len,h.cap,h.big,fun h1=>by omega⟩
theorem pack_any0 {w:World} {y:Px} (h:PackAt w y) (h1:y.p.buf= []) (h2:y.p.l= []) (W:World):PackAt W y:=by
 have hx:y.xs= []:=List.map_eq_nil_iff.1 (h.eq.trans h2)
 exact⟨row_any0 h.buf (by rw[h1];rfl),⟨h.recs.len,h.recs.cap,h.recs.big,fun h0=>by rw[h2] at h0;simp at h0,fun x hx'=>by rw[hx] at hx';cases hx'⟩,h.eq⟩
def PkOk (ks:List (Int × Px)) (z:Nat) (rs:List Rc):Prop:=(rs= []∧getB ks (z:Int)=none)∨(rs≠ []∧∃y,getB ks (z:Int)=some y∧y.p=packZ z rs∧∀w,PackAt w y)
section
variable {w:World} {z:Nat} {rs:List Rc} {y:Px}
theorem beginZ (hz4:z<4) (w:World):Calls Tryz.prog 24 #[.agg #[.int .i64 (z:Int),.int .i64 0,.int .i64 0],.int .i64 (z:Int),.int .i64 4000] w fun e w'=>∃y:Px,e= .returned (.tuple #[.agg #[.int .i64 y.p.h.host,.int .i64 y.p.h.epoch,.int .i64 y.p.h.seq,.int .i64 y.p.zone,.int .i64 y.p.cap,.int .i64 y.p.at_,.slice y.B y.p.buf.length y.bc,.slice y.L y.p.l.length y.lc],.int .i64 0])∧Hid (y.p=packZ z []∧OwnP w.heap.size w' y)∧Below w.heap.size w w':=by
 have h:=Pk.begin_any (h:=hz z) (zone:=(z:Int)) (most:=4000) (w:=w) (hz_fits hz4)
 rw[begin_z hz4] at h
 refine h.mono ?_
 rintro e w' ⟨y,rfl,hp,hO,hb⟩
 exact⟨y,rfl,⟨hp,hO⟩,hb⟩
theorem errB_good {r:Rc} (h:Seg.good r):errB [r]=0:=by rw[Pk.errB_one];exact h.1
theorem addZ (hz4:z<4) (hy:PackAt w y) (hp:y.p=packZ z rs) (hlen:(datZ z rs).length≤4000) {q:Nat} {v:Rv} (hr:RowS cellsOf 7 w (some ⟨q,0,none⟩) 1 1 [v]) (hd:Row cb w v.D v.r.data.length v.c v.r.data) (hg:Seg.good v.r):
  Calls Tryz.prog 25 #[.agg #[.int .i64 y.p.h.host,.int .i64 y.p.h.epoch,.int .i64 y.p.h.seq,.int .i64 y.p.zone,.int .i64 y.p.cap,.int .i64 y.p.at_,.slice y.B y.p.buf.length y.bc,.slice y.L y.p.l.length y.lc],.slice (some ⟨q,0,none⟩) 1 1] w fun e w'=>∃(y':Px) (T:Option Addr) (k d:Nat),e= .returned (.tuple #[.agg #[.int .i64 y'.p.h.host,.int .i64 y'.p.h.epoch,.int .i64 y'.p.h.seq,.int .i64 y'.p.zone,.int .i64 y'.p.cap,.int .i64 y'.p.at_,.slice y'.B y'.p.buf.length y'.bc,.slice y'.L y'.p.l.length y'.lc],.slice T k d,.int .i64 (bif decide ((datZ z (rs++ [v.r])).length≤4000) then 0 else 40)])∧Hid (decide ((datZ z (rs++ [v.r])).length≤4000)=true→y'.p=moreP (packZ z rs) [v.r]∧PackAt w' y'∧OkP y'.p)∧Below w.heap.size w w':=by
 have hok:=pack_ok hz4 hlen
 have hR:RowR w (some ⟨q,0,none⟩) 1 1 [v]:=Pk.rowR_of hr (by omega) (by intro x hx;rw[List.mem_singleton.1 hx];exact hd)
 have h:=Pk.add_any hy (by rw[hp];exact hok) hR (by intro r hr;rw[List.mem_singleton.1 hr];exact hg.2)
 rw[hp,show [v].map Rv.r= [v.r] from rfl] at h
 refine h.mono ?_
 rintro e w' ⟨y',T,k,d,rfl,hp',hO,hT,hb⟩
 have hE:=errB_good hg
 rcases hf:decide ((datZ z (rs++ [v.r])).length≤4000)
 ·have hnf:¬fitsP (packZ z rs) [v.r]:=fun h=>by rw[pack_fits] at h;exact(of_decide_eq_false hf) h
  rw[Pk.addP_full hE hnf]
  exact⟨y',T,k,d,rfl,Lib.hid (fun h=>nomatch h),hb⟩
 ·have hfi:fitsP (packZ z rs) [v.r]:=(pack_fits z rs v.r).2 (of_decide_eq_true hf)
  rw[Pk.addP_ok hE hfi] at hp' hT ⊢
  have hok':OkP y'.p:=by rw[hp'];exact hok.more hE hfi
  exact⟨y',T,k,d,rfl,Lib.hid (fun _=>⟨hp',hO.any hok',hok'⟩),hb⟩
theorem flushZ {r:Rc} (hy:PackAt w y) (hp:y.p=moreP (packZ z rs) [r]) (hok:OkP y.p):
  Calls Tryz.prog 26 #[.agg #[.int .i64 y.p.h.host,.int .i64 y.p.h.epoch,.int .i64 y.p.h.seq,.int .i64 y.p.zone,.int .i64 y.p.cap,.int .i64 y.p.at_,.slice y.B y.p.buf.length y.bc,.slice y.L y.p.l.length y.lc]] w fun e w'=>∃(B:Option Addr) (d m:Nat) (y':Px),e= .returned (.tuple #[.agg #[.int .i64 1,.int .i64 (z:Int),.int .i64 0,.int .i64 0,.int .i64 0,.slice B m d],.agg #[.int .i64 y'.p.h.host,.int .i64 y'.p.h.epoch,.int .i64 y'.p.h.seq,.int .i64 y'.p.zone,.int .i64 y'.p.cap,.int .i64 y'.p.at_,.slice y'.B y'.p.buf.length y'.bc,.slice y'.L y'.p.l.length y'.lc],.bool true])∧Hid (m=(moreP (packZ z rs) [r]).buf.length∧Mem.Owns cb 5 w.heap.size w' (.slice B m d) m (moreP (packZ z rs) [r]).buf∧m≤65536)∧Hid (y'.p=packZ z (rs++ [r])∧∀W,PackAt W y')∧Below w.heap.size w w':=by
 have h:=Pk.flush_some hy hok (by rw[hp];exact(more_buf z rs r).2)
 refine h.mono ?_
 rintro e w' ⟨B,d,y',rfl,hp',hO,hB,hb⟩
 obtain⟨-,-,-,h4,h5,-⟩:=pack_parts z rs r
 have hbp:y'.p=packZ z (rs++ [r]):=by rw[hp',hp];exact pack_behind z rs r
 have ez:y.p.zone=(z:Int):=by rw[hp];exact h5
 have eh:y.p.h.epoch=0:=by rw[hp];show(packZ z rs).h.epoch=0;rw[h4];rfl
 have eb:y.p.buf=(moreP (packZ z rs) [r]).buf:=by rw[hp]
 have hPA:PackAt w' y':=hO.any (by rw[hp'];exact hok.behind)
 have hb1:y'.p.buf= []:=by rw[hp'];rfl
 have hb2:y'.p.l= []:=by rw[hp'];rfl
 exact⟨B,d,y.p.buf.length,y',by rw[ez,eh];rfl,⟨by rw[eb],by rw[←eb];exact hB,hok.buf_le⟩,⟨hbp,pack_any0 hPA hb1 hb2⟩,hb⟩
end
theorem newN {n:Nat} (h1:1≤n) (h2:n≤4) (w:World):
  Calls Tryz.prog 22 #[.int .i64 (n:Int),.int .i64 4000,.int .i64 (n:Int),.int .i64 (n:Int)] w fun en w'=>∃X:Dx,en= .returned (.tuple #[.agg #[.int .i64 X.cap,.int .i64 X.op,.int .i64 X.ac,.slice X.A X.n X.c],.int .i64 0])∧Hid (DevAt w' X∧X.p=dvOf n []∧Fre w.heap.size X)∧Below w.heap.size w w':=by
 have:=new_lo (n:Int) 4000 (n:Int) (n:Int) w
 rw[(dv_new h1 h2).1,(dv_new h1 h2).2] at this
 refine this.mono ?_
 rintro e w' ⟨X,rfl,hd,hp,hb,hl,he⟩
 exact⟨X,rfl,⟨hd,hp,hl,he⟩,hb⟩
theorem doZ {n m:Nat} {L:Lg} {X:Dx} {w:World} (h:DevAt w X) (hX:X.p=dvOf n L) (hn1:1≤n) (hn:n≤4) (hok:okD (dvOf n L)=true) {z:Nat} {r:Rc} (hz:z<n) (hf:(datZ z (rsOf L z++ [r])).length≤4000) {B:Option Addr} {d:Nat} (hm:m=(moreP (packZ z (rsOf L z)) [r]).buf.length) (hB:Row cb w B m d (moreP (packZ z (rsOf L z)) [r]).buf):
  Calls Tryz.prog 16 #[.agg #[.int .i64 X.cap,.int .i64 X.op,.int .i64 X.ac,.slice X.A X.n X.c],.agg #[.int .i64 1,.int .i64 (z:Int),.int .i64 0,.int .i64 0,.int .i64 0,.slice B m d]] w fun en w'=>∃(X:Dx) (at_:Int) (C:Option Addr) (k:Nat),en= .returned (.tuple #[.agg #[.int .i64 X.cap,.int .i64 X.op,.int .i64 X.ac,.slice X.A X.n X.c],.agg #[.int .i64 0,.int .i64 at_,.slice C 0 k]])∧Hid (DevAt w' X∧X.p=dvOf n (L++ [(z,r)])∧okD (dvOf n (L++ [(z,r)]))=true∧Fre w.heap.size X)∧Below w.heap.size w w':=by
 subst hm
 obtain⟨ha,hk⟩:=app_of hn1 hok hz hf
 have hXn:X.n=n:=by rw[←h.plen,hX];exact zsOf_len n L
 refine(Pk.do_2b (p:=dvOf n (L++ [(z,r)])) (q:=⟨0,((datZ z (rsOf L z)).length:Int),[]⟩) (x:=⟨⟨1,(z:Int),0,0,0,(moreP (packZ z (rsOf L z)) [r]).buf⟩,B,d⟩) (does_add rfl) h (by omega) ⟨hB,by show(0:Int)≤_;omega⟩ (by rw[hX];exact hok) (by rw[hX];exact ha)).mono ?_
 rintro e w' ⟨X',C,k,rfl,hd,hp,-,-,hfr,hb⟩
 exact⟨X',_,C,k,rfl,⟨hd,hp,hk,hfr⟩,hb⟩
def covB (r:Rc) (k:Int):Bool:=decide (r.lba≤k)&&decide (k<r.lba+r.n)
def txR (r:Rc):List B8:=bif r.kind==2 then List.replicate 16 0#8 else r.data.take 16
def wantL (L:Lg) (k:Int):Option (List B8):=L.foldl (fun o x=>bif covB x.2 k then some (txR x.2) else o) none
theorem wantL_snoc (L:Lg) (z:Nat) (r:Rc) (k:Int):wantL (L++ [(z,r)]) k=bif covB r k then some (txR r) else wantL L k:=by unfold wantL;rw[List.foldl_append];rfl
theorem row_rec (w:World) (v:Rv):RowS cellsOf 7 (w.alloc (.cells #[.int .i64 v.r.kind,.int .i64 v.r.lba,.int .i64 v.r.n,.int .i64 v.r.ver,.int .i64 v.r.zone,.int .i64 v.r.off,.slice v.D v.r.data.length v.c] 49)) (some ⟨w.heap.size,0,none⟩) 1 1 [v]:=by
 have hc:=Cells.new w #[.int .i64 v.r.kind,.int .i64 v.r.lba,.int .i64 v.r.n,.int .i64 v.r.ver,.int .i64 v.r.zone,.int .i64 v.r.off,.slice v.D v.r.data.length v.c] 49
 refine⟨rfl,by omega,by omega,fun _=>⟨_,_,rfl,hc.lt,fun i y hy j u hu=> ?_⟩⟩
 have hi:i=0:=by have:=(List.getElem?_eq_some_iff.1 hy).1;simpa using this
 subst hi
 simp at hy
 subst hy
 rw[show 0+0*7+j=j by omega,hc.cell]
 simpa [cellsOf] using hu
theorem wr_data {k lb nr:Nat} {b:B8} (hk:k<100000) (hl:lb<50) (h1:1≤nr) (h5:nr≤5):WR ((k:Int)+1) ⟨1,(lb:Int),(nr:Int),(k:Int)+1,0,0,List.replicate (16*nr) b⟩∧txR ⟨1,(lb:Int),(nr:Int),(k:Int)+1,0,0,List.replicate (16*nr) b⟩=List.replicate 16 b:=by
 refine⟨⟨rfl,by omega,by omega,by show(0:Int)≤(lb:Int);omega,by show(lb:Int)<50;omega,by show 1≤(nr:Int);omega,by show(nr:Int)≤5;omega,rfl,rfl,.inl ⟨rfl,b,?_⟩⟩,?_⟩
 ·show List.replicate (16*nr) b=List.replicate (16*((nr:Int)).toNat) b
  rw[Int.toNat_natCast]
 ·show(List.replicate (16*nr) b).take 16=_
  rw[List.take_replicate,Nat.min_eq_left (by omega)]
theorem wr_trim {k lb nr:Nat} (hk:k<100000) (hl:lb<50) (h1:1≤nr) (h5:nr≤5):WR ((k:Int)+1) ⟨2,(lb:Int),(nr:Int),(k:Int)+1,0,0,[]⟩∧txR ⟨2,(lb:Int),(nr:Int),(k:Int)+1,0,0,[]⟩=List.replicate 16 0#8:=
 ⟨⟨rfl,by omega,by omega,by show(0:Int)≤(lb:Int);omega,by show(lb:Int)<50;omega,by show 1≤(nr:Int);omega,by show(nr:Int)≤5;omega,rfl,rfl,.inr ⟨rfl,rfl⟩⟩,rfl⟩
theorem devAt_mov {S:List Nat} {w w':World} {X:Dx} (h:DevAt w X) (hm:Mov S w w') (hS:∀g∈S,Apd X (some g)):DevAt w' X:=by
 have key:∀q,q<w.heap.size→q∉S→w'.heap[q]? =w.heap[q]? :=hm.block
 refine⟨RowS.keep h.row hm.size fun q o e h0=> ?_,fun v hv=> ?_⟩
 ·obtain⟨b,o',e',hb,-⟩:=h.row.at_ h0
  rw[e] at e'
  injection e' with e'
  injection e' with e1
  subst e1
  exact key q hb fun hq=>(hS q hq).zs h0 q o e rfl
 ·have hr:=h.data v hv
  refine⟨hr.len,hr.cap,hr.big,fun h0=> ?_⟩
  obtain⟨b,o,e,hb,hc⟩:=hr.at_ h0
  refine⟨b,o,e,Nat.lt_of_lt_of_le hb hm.size,fun i x hi=> ?_⟩
  rw[World.cell?_of_block (w:=w) (key b hb fun hq=>(hS b hq).data v hv h0 b o e rfl)]
  exact hc i x hi
theorem apd_late {w:World} {X:Dx} {g:Nat} (h:DevAt w X) (hg:w.heap.size≤g):Apd X (some g):=by
 refine⟨fun h0 q o e e2=> ?_,fun v hv h0 q o e e2=> ?_⟩
 ·obtain⟨b,o',e',hb,-⟩:=h.row.at_ h0
  rw[e] at e'
  injection e' with e'
  injection e' with e1
  injection e2 with e2
  omega
 ·obtain⟨b,o',e',hb,-⟩:=(h.data v hv).at_ h0
  rw[e] at e'
  injection e' with e'
  injection e' with e1
  injection e2 with e2
  omega
structure St (w W:World) (n k g4 g7 pm wm:Nat) (X:Dx) (L:Lg) (ks:List (Int × Px)) (ws:List (Int × List B8)):Prop where
 lw:Below w.heap.size w W
 c4:Cells W g4 26 #[.int .i64 0,.int .i64 0,.int .i64 0,.slice none 0 0]
 c7:Cells W g7 26 #[.int .i64 X.cap,.int .i64 X.op,.int .i64 X.ac,.slice X.A X.n X.c]
 dev:DevAt W X
 px:X.p=dvOf n L
 ok:okD (dvOf n L)=true
 lg:LgOk n k L
 ax:∀g∈ [g4,g7,pm,wm],Apd X (some g)
 mp:MPk W pm ks
 pk:∀z,z<n→PkOk ks z (rsOf L z)
 mw:MWt W wm ws
 wt:∀j,getB ws j=wantL L j
 low:w.heap.size≤g4∧g4<g7∧g7<pm∧pm<wm∧wm<W.heap.size
section
variable {w W W':World} {n k g4 g7 pm wm:Nat} {X:Dx} {L:Lg} {ks:List (Int × Px)} {ws:List (Int × List B8)}
theorem St.below (h:St w W n k g4 g7 pm wm X L ks ws) (hb:Below W.heap.size W W'):St w W' n k g4 g7 pm wm X L ks ws:=
 ⟨h.lw.trans (hb.mono h.lw.size),h.c4.below hb,h.c7.below hb,h.dev.below hb,h.px,h.ok,h.lg,h.ax,h.mp.below hb,h.pk,h.mw.below hb,h.wt,by have:=h.low;have:=hb.size;omega⟩
theorem St.later (h:St w W n k g4 g7 pm wm X L ks ws):St w W n (k+1) g4 g7 pm wm X L ks ws:=⟨h.lw,h.c4,h.c7,h.dev,h.px,h.ok,h.lg.later,h.ax,h.mp,h.pk,h.mw,h.wt,h.low⟩
theorem St.next {W2 W3 W4:World} {X':Dx} {z:Nat} {r:Rc} {y:Px} {ws':List (Int × List B8)} {q:Nat} (h:St w W n k g4 g7 pm wm X L ks ws) (hz:z<n) (hwr:WR ((k:Int)+1) r) (hf:(datZ z (rsOf L z++ [r])).length≤4000)
  (hd:DevAt W X') (hp:X'.p=dvOf n (L++ [(z,r)])) (hok:okD (dvOf n (L++ [(z,r)]))=true) (hfr:Fre q X') (hq:wm<q)
  (hm2:Mov [g7] W W2) (h7:Cells W2 g7 26 #[.int .i64 X'.cap,.int .i64 X'.op,.int .i64 X'.ac,.slice X'.A X'.n X'.c]) (hm3:Mov [pm] W2 W3) (hpk:MPk W3 pm (setB ks (z:Int) y)) (hy:y.p=packZ z (rsOf L z++ [r])) (hyp:∀w,PackAt w y)
  (hm4:Mov [wm] W3 W4) (hmw:MWt W4 wm ws') (hw:∀j,getB ws' j=bif covB r j then some (txR r) else getB ws j):St w W4 n (k+1) g4 g7 pm wm X' (L++ [(z,r)]) (setB ks (z:Int) y) ws':=by
 have hlow:=h.low
 have hA:∀g∈ [g4,g7,pm,wm],Apd X' (some g):=fun g hg=>hfr.box (by simp at hg;omega)
 have hm24:Mov [pm,wm] W2 W4:=(hm3.mono (T:= [pm,wm]) (fun x hx=> .inl (by simp at hx ⊢;omega))).trans hm4 (fun x hx=> .inl (by simp at hx ⊢;omega))
 have hm14:Mov [g7,pm,wm] W W4:=(hm2.mono (T:= [g7,pm,wm]) (fun x hx=> .inl (by simp at hx ⊢;omega))).trans hm24 (fun x hx=> .inl (by simp at hx ⊢;omega))
 have hlw:=h.lw.size
 refine⟨h.lw.trans (hm14.below hlw (fun x hx=>by simp at hx;omega)),h.c4.mov hm14 (by simp;omega),h7.mov hm24 (by simp;omega),devAt_mov hd hm14 (fun g hg=>hA g (by simp at hg ⊢;omega)),hp,hok,h.lg.more hz hwr hf,hA,hpk.mov hm4 (by simp;omega),fun i hi=> ?_,hmw,fun j=> ?_,by have:=hm14.size;omega⟩
 ·rw[rsOf_snoc]
  by_cases e:i=z
  ·subst e
   rw[if_pos rfl]
   refine .inr ⟨by simp,y,?_,hy,hyp⟩
   rw[GM.get_set,if_pos rfl]
  ·rw[if_neg e]
   have hne:¬(i:Int)=(z:Int):=by omega
   have:=h.pk i hi
   unfold PkOk at this ⊢
   rw[GM.get_set,if_neg hne]
   exact this
 ·rw[hw,wantL_snoc,h.wt]
end
end Rp
end
section
open Go.RowKit Mem Box Zns
namespace Rp
open Seg (Hdr Rc Rv cellsOf RowR hdV fits nums hnums nn frame headX recX frames check segB)
open Pk (zoneOf placeR flen Fre Did2)
open Zon (Zn Zv B8 nilZ)
open Vm (exR Offd)
open Ext (MayX lookP rangeB tell blk has Ok extB blkB)
def liveT:List (BitVec 8):= [48#8,49#8,50#8,51#8,52#8,53#8,54#8,55#8,56#8,57#8,97#8,98#8,99#8,100#8,101#8,102#8]
def liveR:Rc:=⟨1,7,1,3,0,0,liveT⟩
theorem liveT_len:liveT.length=16:=rfl
theorem liveR_fits:fits (nums liveR):=by intro z hz;simp[nums,liveR] at hz;omega
theorem liveR_check:check liveR=0:=by decide
theorem liveR_good:Seg.good liveR:=⟨liveR_check,liveR_fits⟩
theorem live_seg:segB (hz 1) [liveR]=(datZ 1 [liveR],0):=by
 unfold segB
 rw[if_pos (hz_nn 1),Seg.recsB_ok [liveR] (by intro r hr;rw[List.mem_singleton.1 hr];exact liveR_check)]
 rfl
theorem live_flen:flen liveR=28:=by
 have h:(recX liveR).length=23:=by simp[recX,nums,liveR,Wire.encs,Wire.enc_lt,Wire.encV,liveT]
 have e:(Wire.enc 23).length=1:=by rw[Wire.enc_lt (by omega)];rfl
 unfold flen
 rw[Seg.frame_len,h,e]
theorem live_len:(datZ 1 [liveR]).length≤150∧0<(datZ 1 [liveR]).length:=by
 have h1:=hz_len (z:=1) (by omega)
 have h2:=live_flen
 have e:(datZ 1 [liveR]).length=(frame (headX (hz 1))).length+(frames [liveR]).length:=by
  show(frame (headX (hz 1))++frames [liveR]).length=_
  rw[List.length_append]
 rw[e,Pk.frames_one,h2]
 omega
def liveZ0:List Zn:= [zoneOf 200 0 [],zoneOf 200 0 []]
def liveZ1:List Zn:= [zoneOf 200 0 (datZ 1 [liveR]),zoneOf 200 0 []]
theorem live_new:newP 2 200 1 1=⟨200,1,1,liveZ0⟩∧boundsB 2 200 1 1=true:=⟨rfl,rfl⟩
theorem live_ok0:okD ⟨200,1,1,liveZ0⟩=true:=new_ok (n:=2) rfl
theorem live_do:doP ⟨200,1,1,liveZ0⟩ ⟨1,0,0,0,0,datZ 1 [liveR]⟩=(⟨200,1,1,liveZ1⟩,⟨0,0,[]⟩)∧okD ⟨200,1,1,liveZ1⟩=true:=by
 have hl:=live_len
 have hr:Zon.openB (zoneOf 200 0 [])=true∨((cO liveZ0:Int)<1∧(cA liveZ0:Int)<1):= .inr ⟨by decide,by decide⟩
 have h1:=appZone (z:=0) (D:= []) (b:=datZ 1 [liveR]) (by omega) (by omega) live_ok0 (show liveZ0[0]? =some (zoneOf 200 0 []) from rfl) hl.2 (by simp;omega) hr
 have h2:=okD_app (z:=0) (D:= []) (b:=datZ 1 [liveR]) (by omega) (by omega) live_ok0 (show liveZ0[0]? =some (zoneOf 200 0 []) from rfl) hl.2 (by simp;omega) hr
 exact⟨h1,h2⟩
def liveF:List Fd:= [fdZ 1 [liveR],Fd.no]
theorem live_dev {X:Dx} {w:World} (hX:DevAt w X) (hp:X.p=⟨200,1,1,liveZ1⟩):Dev w X liveF∧X.n=2:=by
 have hlen:X.n=2:=by rw[←hX.plen,hp];rfl
 refine⟨⟨hX,by rw[hp];exact live_do.2,fun i v hv=> ?_,hlen.symm⟩,hlen⟩
 have hz:liveZ1[i]? =some v.z:=by
  have e1:X.p.zs[i]? =some v.z:=by show(X.xs.map Zv.z)[i]? =_;rw[List.getElem?_map,hv];rfl
  rw[hp] at e1
  exact e1
 rcases i with _|_|i
 ·have e:zoneOf 200 0 (datZ 1 [liveR])=v.z:=Option.some.inj hz
  refine⟨_,rfl,?_⟩
  rw[←e]
  have:=Seg.scans_frames [] one_nil [liveR] (by intro r hr;rw[List.mem_singleton.1 hr];exact liveR_good)
  rw[List.append_nil] at this
  exact .seg (hz_fits (z:=1) (by omega)) (hz_nn 1) this
 ·have e:zoneOf 200 0 []=v.z:=Option.some.inj hz
  refine⟨_,rfl,?_⟩
  rw[←e]
  exact holds_nil
 ·cases hz
def liveO:Int:=((frame (headX (hz 1))).length:Int)+placeR liveR
def liveX:Ext.Ex:=⟨7,1,3,0,liveO⟩
theorem live_tr:trAll liveF (List.range 2)= [(liveR,0,liveO)]:=rfl
theorem live_in:0≤liveO∧liveO+16≤((datZ 1 [liveR]).length:Int)∧((datZ 1 [liveR]).drop liveO.toNat).take 16=liveT:=by
 have h:=tr_in (h:=1) (z:=0) (rs:= [liveR]) (x:=(liveR,0,liveO)) (by simp[trF,fdZ,Fd.seg,trs,liveO])
 exact⟨h.2.2.1,h.2.2.2.1,h.2.2.2.2⟩
theorem live_may:MayX liveX:=by
 have h:=live_in
 have h2:=live_len
 exact⟨by decide,by decide,by decide,by decide,.inr ⟨by decide,by decide,h.1,by show liveO+16*1≤_;omega⟩⟩
theorem live_good:AllGood liveF (List.range 2):=by
 rw[AllGood,live_tr]
 intro x hx
 rw[List.mem_singleton.1 hx]
 have h:=live_in
 have h2:=live_len
 exact⟨liveR_fits,liveR_check,.inl rfl,by decide,h.1,by show liveO≤_;omega,live_may⟩
theorem live_map {m:List Ext.Ex} (h:Offd ((trAll liveF (List.range 2)).map exT) m):m= [liveX]:=by
 rw[live_tr] at h
 obtain⟨r,hp,-,rfl⟩:=h
 have:r= [(liveX,0)]:=List.perm_singleton.1 hp
 rw[this]
 exact Vm.put_one live_may
theorem live_bytes {X:Dx} {w:World} (hX:DevAt w X) (hp:X.p=⟨200,1,1,liveZ1⟩):(lookP [liveX] 7 2).flatMap (extB (datX X))=liveT++List.replicate 16 0#8:=by
 have hok:Ok 0 [liveX]:=⟨live_may,by decide,trivial⟩
 have hr:rangeB 7 2=true:=rfl
 have hf:=Ext.look_full hok hr
 rw[Ext.full_blocks (datX X) _ _ _ hf]
 have t7:=Ext.look_tell hok hr (j:=7) (by omega) (by omega)
 have t8:=Ext.look_tell hok hr (j:=8) (by omega) (by omega)
 have e7:tell [liveX] 7=some (3,0,liveO):=by
  show(if has liveX 7 then some (blk liveX 7) else none)=_
  rw[if_pos (by unfold has;exact⟨by decide,by decide⟩)]
  show some ((3:Int),(0:Int),liveO+16*(7-7))=_
  rw[Int.sub_self,Int.mul_zero,Int.add_zero]
 have e8:tell [liveX] 8=none:=by
  show(if has liveX 8 then some (blk liveX 8) else none)=_
  rw[if_neg (by unfold has;exact fun h=>absurd h.2 (by decide))]
 have hd:datX X 0=datZ 1 [liveR]:=by
  have e1:X.p.zs[0]? =some (zoneOf 200 0 (datZ 1 [liveR])):=by rw[hp];rfl
  have e2:X.p.zs[0]? =X.xs[0]?.map Zv.z:=by show(X.xs.map Zv.z)[0]? =_;rw[List.getElem?_map]
  rw[e2] at e1
  obtain⟨v,hv,hz⟩:=Option.map_eq_some_iff.1 e1
  show(match X.xs[(0:Int).toNat]? with|some v=>v.z.data|none=> [])=_
  rw[show(0:Int).toNat=0 from rfl,hv,]
  show v.z.data=_
  rw[hz];rfl
 show(List.range 2).flatMap (fun(i:Nat)=>blkB (datX X) ((tell (lookP [liveX] 7 2) (7+(i:Int))).getD (0,-1,0)))=_
 rw[show List.range 2= [0,1] from rfl,List.flatMap_cons,List.flatMap_cons,List.flatMap_nil,List.append_nil]
 rw[show(7:Int)+((0:Nat):Int)=7 from rfl,show(7:Int)+((1:Nat):Int)=8 from rfl,t7,t8,e7,e8]
 show blkB (datX X) (3,0,liveO)++List.replicate 16 0#8=_
 congr 1
 show(if(0:Int)= -1 then List.replicate 16 0#8 else((datX X 0).drop liveO.toNat).take 16)=liveT
 rw[if_neg (by decide),hd]
 exact live_in.2.2
theorem live_inx {X:Dx} {w:World} (hX:DevAt w X) (hp:X.p=⟨200,1,1,liveZ1⟩):∀x∈lookP [liveX] 7 2,InX X x:=by
 have hok:Ok 0 [liveX]:=⟨live_may,by decide,trivial⟩
 refine inx_look hok rfl fun j b hb=> ?_
 obtain⟨p,x,q,e,h1,h2⟩:=tell_first hb
 have hx:x=liveX:=by
  have:x∈ [liveX]:=by rw[e];simp
  exact List.mem_singleton.1 this
 subst hx
 have e1:X.p.zs[0]? =some (zoneOf 200 0 (datZ 1 [liveR])):=by rw[hp];rfl
 have e2:X.p.zs[0]? =X.xs[0]?.map Zv.z:=by show(X.xs.map Zv.z)[0]? =_;rw[List.getElem?_map]
 rw[e2] at e1
 obtain⟨v,hv,hz⟩:=Option.map_eq_some_iff.1 e1
 refine .inr ⟨0,v,by rw[h2];rfl,hv,?_⟩
 have hj:j=7:=by
  have h3:=h1.1
  have h4:=h1.2
  have:liveX.en=8:=rfl
  have:liveX.lba=7:=rfl
  omega
 rw[h2,hz,hj]
 show(if(0:Int)= -1 then(0:Int) else liveO+16*(7-7))+16≤((datZ 1 [liveR]).length:Int)
 rw[if_neg (by decide)]
 have:=live_in.2.1
 omega
end Rp
end
section
open Go.RowKit Mem Box Zns
namespace Rp
open Seg (Hdr Rc Rv cellsOf RowR hdV fits nums hnums nn frame headX recX frames check segB)
open Pk (zoneOf placeR flen Fre Did2)
open Zon (Zn Zv B8 nilZ)
open Vm (exR Offd)
open Ext (MayX lookP rangeB tell blk has Ok extB blkB RowL OwnsL)
theorem newL (w:World):Calls Tryz.prog 22 #[.int .i64 2,.int .i64 200,.int .i64 1,.int .i64 1] w fun e w'=>∃X:Dx,e= .returned (.tuple #[.agg #[.int .i64 X.cap,.int .i64 X.op,.int .i64 X.ac,.slice X.A X.n X.c],.int .i64 0])∧Hid (DevAt w' X∧X.p=⟨200,1,1,liveZ0⟩)∧Below w.heap.size w w':=by
 have:=new_lo 2 200 1 1 w
 rw[live_new.1,live_new.2] at this
 refine this.mono ?_
 rintro e w' ⟨X,rfl,hd,hp,hb,-⟩
 exact⟨X,rfl,⟨hd,hp⟩,hb⟩
theorem segL {w:World} {g r:Nat} (hr:RowS cellsOf 7 w (some ⟨r,0,none⟩) 1 1 [⟨liveR,some ⟨g,0,none⟩,16⟩]) (hd:Row cb w (some ⟨g,0,none⟩) 16 16 liveT):Calls Tryz.prog 23 #[.agg #[.int .i64 1,.int .i64 0,.int .i64 0],.slice (some ⟨r,0,none⟩) 1 1] w fun e w'=>∃(B:Option Addr) (m d:Nat),e= .returned (.tuple #[.slice B m d,.int .i64 0])∧Hid (m=(datZ 1 [liveR]).length∧Row cb w' B m d (datZ 1 [liveR]))∧Below w.heap.size w w':=by
 have hR:RowR w (some ⟨r,0,none⟩) 1 1 [⟨liveR,some ⟨g,0,none⟩,16⟩]:=Pk.rowR_of hr (by omega) (by intro x hx;rw[List.mem_singleton.1 hx];exact hd)
 have h:=Seg.seg_any (h:=hz 1) hR (hz_fits (by omega)) (by intro r hr;rw[List.mem_singleton.1 hr];exact liveR_fits) (by show(frames [liveR]).length≤_;rw[Pk.frames_one,live_flen];omega)
 rw[show [(⟨liveR,some ⟨g,0,none⟩,16⟩:Rv)].map Rv.r= [liveR] from rfl,live_seg] at h
 refine h.mono ?_
 rintro e w' ⟨B,m,d,rfl,hO,hb⟩
 have hl:=live_len
 obtain⟨hrow,hm⟩:=Wire.gave_row hO (by have:=hl.1;show(datZ 1 [liveR]).length≤_;omega)
 exact⟨B,m,d,rfl,⟨hm,hrow⟩,hb⟩
theorem doL {X:Dx} {w:World} (h:DevAt w X) (hp:X.p=⟨200,1,1,liveZ0⟩) {B:Option Addr} {m d:Nat} (hm:m=(datZ 1 [liveR]).length) (hB:Row cb w B m d (datZ 1 [liveR])):
  Calls Tryz.prog 16 #[.agg #[.int .i64 X.cap,.int .i64 X.op,.int .i64 X.ac,.slice X.A X.n X.c],.agg #[.int .i64 1,.int .i64 0,.int .i64 0,.int .i64 0,.int .i64 0,.slice B m d]] w fun e w'=>∃(X:Dx) (C:Option Addr) (k:Nat),e= .returned (.tuple #[.agg #[.int .i64 X.cap,.int .i64 X.op,.int .i64 X.ac,.slice X.A X.n X.c],.agg #[.int .i64 0,.int .i64 0,.slice C 0 k]])∧Hid (DevAt w' X∧X.p=⟨200,1,1,liveZ1⟩∧Fre w.heap.size X)∧Below w.heap.size w w':=by
 subst hm
 have hXn:X.n=2:=by rw[←h.plen,hp];rfl
 refine(Pk.do_2b (p:=⟨200,1,1,liveZ1⟩) (q:=⟨0,0,[]⟩) (x:=⟨⟨1,0,0,0,0,datZ 1 [liveR]⟩,B,d⟩) (does_add rfl) h (by omega) ⟨hB,by show(0:Int)≤_;omega⟩ (by rw[hp];exact live_ok0) (by rw[hp];exact live_do.1)).mono ?_
 rintro e w' ⟨X',C,k,rfl,hd,hp',-,-,hfr,hb⟩
 exact⟨X',C,k,rfl,⟨hd,hp',hfr⟩,hb⟩
theorem live_max:maxV [(liveR,(0:Int),liveO)]=3:=by
 generalize liveO=o
 show max (0:Int) 3=3
 rfl
section
variable {X:Dx} {w:World} (h:DevAt w X) (hp:X.p=⟨200,1,1,liveZ1⟩)
include h hp
theorem mapL:Calls Tryz.prog 10 #[.agg #[.int .i64 X.cap,.int .i64 X.op,.int .i64 X.ac,.slice X.A X.n X.c],.slice none 0 0] w fun e w'=>∃(B:Option Addr) (d:Nat),e= .returned (.tuple #[.slice B 1 d,.int .i64 0])∧Hid (OwnsL w.heap.size w' (.slice B 1 d) 1 [liveX])∧Below w.heap.size w w':=by
 obtain⟨hD,hn⟩:=live_dev h hp
 refine(map_all hD (by rw[hn];exact live_good) (by rw[hn,live_tr];decide)).mono ?_
 rw[hn]
 rintro e w' ⟨m,hof,⟨B,k,d,rfl,hO⟩,hb⟩
 have hm:=live_map hof
 subst hm
 have hk:k=1:=hO.2.symm
 subst hk
 exact⟨B,d,rfl,hO,hb⟩
theorem bytesL {A:Option Addr} {c:Nat} (hA:RowL w A 1 c [liveX]):Calls Tryz.prog 13 #[.agg #[.int .i64 X.cap,.int .i64 X.op,.int .i64 X.ac,.slice X.A X.n X.c],.slice A 1 c,.int .i64 7,.int .i64 2] w fun e w'=>∃(B:Option Addr) (d:Nat),e= .returned (.tuple #[.slice B 32 d,.int .i64 0])∧Hid (Row cb w' B 32 d (liveT++List.replicate 16 0#8))∧Below w.heap.size w w':=by
 obtain⟨hD,hn⟩:=live_dev h hp
 have:=bytes_in h (fun v hv=>hD.cap hv) hA ⟨live_may,by decide,trivial⟩ (by omega) (a:=7) (k:=2) rfl (by omega) (live_inx h hp)
 rw[live_bytes h hp] at this
 refine this.mono ?_
 rintro e w' ⟨B,m,d,rfl,hO,hb⟩
 obtain⟨hrow,hm⟩:=Wire.gave_row hO (by rw[List.length_append,List.length_replicate,liveT_len];omega)
 have hm2:m=32:=by rw[hm,List.length_append,List.length_replicate,liveT_len]
 subst hm2
 exact⟨B,d,rfl,hrow,hb⟩
theorem headsL:Calls Tryz.prog 20 #[.agg #[.int .i64 X.cap,.int .i64 X.op,.int .i64 X.ac,.slice X.A X.n X.c]] w fun e w'=>∃(b o c:Nat),e= .returned (.slice (some ⟨b,o,none⟩) 2 c)∧Hid (b<w'.heap.size∧w'.cell? ⟨b,o,none⟩=some (.int .i64 1)∧w'.cell? ⟨b,o+3,none⟩=some (.int .i64 (-1)))∧Below w.heap.size w w':=by
 obtain⟨hD,hn⟩:=live_dev h hp
 refine(heads_any hD).mono ?_
 rw[hn]
 rintro e w' ⟨A,c,rfl,hO,hb⟩
 have hrow:=OwnS.Owns.row fitH hO (by omega)
 obtain⟨b,o,rfl,hbl,hc⟩:=hrow.at_ (by omega)
 have k0:=hc 0 (hz 1) rfl 0 _ rfl
 have k1:=hc 1 ⟨-1,0,0⟩ rfl 0 _ rfl
 exact⟨b,o,c,rfl,⟨hbl,by simpa [hz] using k0,by simpa using k1⟩,hb⟩
theorem newestL:Calls Tryz.prog 17 #[.agg #[.int .i64 X.cap,.int .i64 X.op,.int .i64 X.ac,.slice X.A X.n X.c]] w fun e w'=>e= .returned (.int .i64 3)∧Below w.heap.size w w':=by
 obtain⟨hD,hn⟩:=live_dev h hp
 have:=newest_any hD (by rw[hn];exact live_good)
 have e:maxV (trAll liveF (List.range X.n))=3:=by rw[hn,live_tr,live_max]
 rw[e] at this
 exact this
end
theorem row_mov {α:Type} {f:α→Value} {S:List Nat} {w w':World} {A:Option Addr} {n c:Nat} {l:List α} (h:Row f w A n c l) (hm:Mov S w w') (hS:∀q o,A=some ⟨q,o,none⟩→q∉S):Row f w' A n c l:=by
 refine⟨h.len,h.cap,h.big,fun h0=> ?_⟩
 obtain⟨b,o,e,hb,hc⟩:=h.at_ h0
 refine⟨b,o,e,Nat.lt_of_lt_of_le hb hm.size,fun i x hi=> ?_⟩
 rw[World.cell?_of_block (w:=w) (hm.block b hb (hS b o e))]
 exact hc i x hi
theorem str_add (a b:List (BitVec 8)):str a++str b=str (a++b):=by
 unfold str strOfNums
 apply ByteArray.ext
 simp
theorem str_size (l:List (BitVec 8)):(str l).size=l.length:=by
 unfold str strOfNums
 simp[ByteArray.size]
set_option pp.deepTerms true in
set_option pp.maxSteps 1000000 in
theorem live_any (w:World):Calls Tryz.prog 8 #[] w fun e w'=>e= .returned (.bool true)∧Below w.heap.size w w':=by
 have L1:=Lib.hid (Below.refl w.heap.size w)
 have HN:=fun w=>Lib.hid (newL w)
 go_enter Tryz.func8,Tryz.ntmps8
 go_upto_region 2 with(go_at_call 22;refine(HN w).out.mono ?_;rintro e w2 ⟨X,rfl,hX,hb⟩;have L2:=Lib.hid hb;clear hb)
 have bb:Below w2.heap.size w2 (w2.alloc (.cells #[.int .i64 X.cap,.int .i64 X.op,.int .i64 X.ac,.slice X.A X.n X.c] 26)):=(Below.refl _ w2).alloc (Nat.le_refl _) _
 have L3:=Lib.hid (L2.out.trans (bb.mono L2.out.size))
 have C3:Hid (Cells (w2.alloc (.cells #[.int .i64 X.cap,.int .i64 X.op,.int .i64 X.ac,.slice X.A X.n X.c] 26)) w2.heap.size 26 #[.int .i64 X.cap,.int .i64 X.op,.int .i64 X.ac,.slice X.A X.n X.c]):=Cells.new _ _ _
 have D3:Hid (DevAt (w2.alloc (.cells #[.int .i64 X.cap,.int .i64 X.op,.int .i64 X.ac,.slice X.A X.n X.c] 26)) X∧X.p=⟨200,1,1,liveZ0⟩):=⟨hX.out.1.below bb,hX.out.2⟩
 have G3:=Lib.hid L2.out.size
 generalize w2.alloc (.cells #[.int .i64 X.cap,.int .i64 X.op,.int .i64 X.ac,.slice X.A X.n X.c] 26)=w3 at*
 generalize w2.heap.size=dg at*
 clear bb hX L2 L1 HN
 have hcv:(convert 37 37 (.slice (some ⟨w3.heap.size,0,none⟩) 16 16)).run Tryz.prog (w3.alloc (.cells #[.int .u8 48,.int .u8 49,.int .u8 50,.int .u8 51,.int .u8 52,.int .u8 53,.int .u8 54,.int .u8 55,.int .u8 56,.int .u8 57,.int .u8 97,.int .u8 98,.int .u8 99,.int .u8 100,.int .u8 101,.int .u8 102] 5))= .ok (.slice (some ⟨w3.heap.size,0,none⟩) 16 16) (w3.alloc (.cells #[.int .u8 48,.int .u8 49,.int .u8 50,.int .u8 51,.int .u8 52,.int .u8 53,.int .u8 54,.int .u8 55,.int .u8 56,.int .u8 57,.int .u8 97,.int .u8 98,.int .u8 99,.int .u8 100,.int .u8 101,.int .u8 102] 5 (16,17))):=Lib.run_convert_bytes_const w3 37 5 #[.int .u8 48,.int .u8 49,.int .u8 50,.int .u8 51,.int .u8 52,.int .u8 53,.int .u8 54,.int .u8 55,.int .u8 56,.int .u8 57,.int .u8 97,.int .u8 98,.int .u8 99,.int .u8 100,.int .u8 101,.int .u8 102] 16 16 Tryz.underlying37 Tryz.underlying5
 go_upto_region 3 with fail
 have bb:Below w3.heap.size w3 (w3.alloc (.cells #[.int .u8 48,.int .u8 49,.int .u8 50,.int .u8 51,.int .u8 52,.int .u8 53,.int .u8 54,.int .u8 55,.int .u8 56,.int .u8 57,.int .u8 97,.int .u8 98,.int .u8 99,.int .u8 100,.int .u8 101,.int .u8 102] 5 (16,17))):=(Below.refl _ w3).alloc (Nat.le_refl _) _
 have L4:=Lib.hid (L3.out.trans (bb.mono L3.out.size))
 have C4:=Lib.hid (Cells.below C3.out bb)
 have D4:Hid (DevAt (w3.alloc (.cells #[.int .u8 48,.int .u8 49,.int .u8 50,.int .u8 51,.int .u8 52,.int .u8 53,.int .u8 54,.int .u8 55,.int .u8 56,.int .u8 57,.int .u8 97,.int .u8 98,.int .u8 99,.int .u8 100,.int .u8 101,.int .u8 102] 5 (16,17))) X∧X.p=⟨200,1,1,liveZ0⟩):=⟨D3.out.1.below bb,D3.out.2⟩
 have T4:Hid (Row cb (w3.alloc (.cells #[.int .u8 48,.int .u8 49,.int .u8 50,.int .u8 51,.int .u8 52,.int .u8 53,.int .u8 54,.int .u8 55,.int .u8 56,.int .u8 57,.int .u8 97,.int .u8 98,.int .u8 99,.int .u8 100,.int .u8 101,.int .u8 102] 5 (16,17))) (some ⟨w3.heap.size,0,none⟩) 16 16 liveT):=by
  refine⟨rfl,by omega,by omega,fun _=>⟨_,_,rfl,by simp,fun i x hx=> ?_⟩⟩
  have hc:(w3.alloc (.cells #[.int .u8 48,.int .u8 49,.int .u8 50,.int .u8 51,.int .u8 52,.int .u8 53,.int .u8 54,.int .u8 55,.int .u8 56,.int .u8 57,.int .u8 97,.int .u8 98,.int .u8 99,.int .u8 100,.int .u8 101,.int .u8 102] 5 (16,17))).cell? ⟨w3.heap.size,0+i,none⟩=(#[.int .u8 48,.int .u8 49,.int .u8 50,.int .u8 51,.int .u8 52,.int .u8 53,.int .u8 54,.int .u8 55,.int .u8 56,.int .u8 57,.int .u8 97,.int .u8 98,.int .u8 99,.int .u8 100,.int .u8 101,.int .u8 102])[0+i]? :=by
   rw[World.cell?,World.alloc]
   simp
  rw[hc,Nat.zero_add]
  have hl:(#[.int .u8 48,.int .u8 49,.int .u8 50,.int .u8 51,.int .u8 52,.int .u8 53,.int .u8 54,.int .u8 55,.int .u8 56,.int .u8 57,.int .u8 97,.int .u8 98,.int .u8 99,.int .u8 100,.int .u8 101,.int .u8 102])=(liveT.map cb).toArray:=rfl
  rw[hl,List.getElem?_toArray,List.getElem?_map,hx];rfl
 generalize w3.alloc (.cells #[.int .u8 48,.int .u8 49,.int .u8 50,.int .u8 51,.int .u8 52,.int .u8 53,.int .u8 54,.int .u8 55,.int .u8 56,.int .u8 57,.int .u8 97,.int .u8 98,.int .u8 99,.int .u8 100,.int .u8 101,.int .u8 102] 5 (16,17))=w4 at*
 have GTD:Hid (dg<w3.heap.size):=C3.out.lt
 have GT4:Hid (w3.heap.size<w4.heap.size):=by
  obtain⟨b,o,e,h,-⟩:=T4.out.at_ (by omega)
  injection e with e;injection e with e;show _<_;omega
 generalize w3.heap.size=tg at*
 clear bb L3 C3 D3
 have HSG:=Lib.hid (segL (row_rec w4 ⟨liveR,some ⟨tg,0,none⟩,16⟩) (T4.out.below ((Below.refl _ w4).alloc (Nat.le_refl _) _)))
 have bb:Below w4.heap.size w4 (w4.alloc (.cells #[.int .i64 1,.int .i64 7,.int .i64 1,.int .i64 3,.int .i64 0,.int .i64 0,.slice (some ⟨tg,0,none⟩) 16 16] 49)):=(Below.refl _ w4).alloc (Nat.le_refl _) _
 have L5:=Lib.hid (L4.out.trans (bb.mono L4.out.size))
 have C5:=Lib.hid (Cells.below C4.out bb)
 have D5:Hid (DevAt (w4.alloc (.cells #[.int .i64 1,.int .i64 7,.int .i64 1,.int .i64 3,.int .i64 0,.int .i64 0,.slice (some ⟨tg,0,none⟩) 16 16] 49)) X∧X.p=⟨200,1,1,liveZ0⟩):=⟨D4.out.1.below bb,D4.out.2⟩
 have K5:=Lib.hid bb
 clear bb
 go_upto_region 4 with(go_at_call 23;refine HSG.out.mono ?_;rintro e w6 ⟨B,bm,bc,rfl,hB,hb⟩;have L6:=Lib.hid (L5.out.trans (hb.mono L5.out.size));have C6:=Lib.hid (Cells.below C5.out hb);have D6:Hid (DevAt w6 X∧X.p=⟨200,1,1,liveZ0⟩):=⟨D5.out.1.below hb,D5.out.2⟩;have O6:=Lib.hid (Row.below (Row.below T4.out K5.out) hb);have GT6:Hid (tg<w6.heap.size):=Nat.lt_of_lt_of_le GT4.out (Nat.le_trans K5.out.size hb.size);clear hb)
 clear L5 C5 D5 K5 HSG L4 C4 D4
 have HDO:=Lib.hid (doL D6.out.1 D6.out.2 hB.out.1 hB.out.2)
 have m0:=Cells.cell C6.out 0
 have m1:=Cells.cell C6.out 1
 have m2:=Cells.cell C6.out 2
 have m3:=Cells.cell C6.out 3
 have GD:Hid (dg<w6.heap.size):=C6.out.lt
 go_upto_region 5 with(go_at_call 16;refine HDO.out.mono ?_;rintro e w7 ⟨X7,DC,dk,rfl,hX,hb⟩;have L7:=Lib.hid (L6.out.trans (hb.mono L6.out.size));have C7:=Lib.hid (Cells.below C6.out hb);have O7:=Lib.hid (Row.below O6.out hb);have GT7:Hid (tg<w7.heap.size):=Nat.lt_of_lt_of_le GT6.out hb.size;have f0:(w7.alloc (.cells #[.int .i64 0,.int .i64 0,.slice none 0 0] 51)).frozen? ⟨dg,0,none⟩=false:=Cells.frozen (Cells.alloc C7.out _) 0;have z0:=Cells.cell (Cells.alloc C7.out (.cells #[.int .i64 0,.int .i64 0,.slice none 0 0] 51)) 0;have f1:(w7.alloc (.cells #[.int .i64 0,.int .i64 0,.slice none 0 0] 51)).frozen? ⟨dg,1,none⟩=false:=Cells.frozen (Cells.alloc C7.out _) 1;have z1:=Cells.cell (Cells.alloc C7.out (.cells #[.int .i64 0,.int .i64 0,.slice none 0 0] 51)) 1;have f2:(w7.alloc (.cells #[.int .i64 0,.int .i64 0,.slice none 0 0] 51)).frozen? ⟨dg,2,none⟩=false:=Cells.frozen (Cells.alloc C7.out _) 2;have z2:=Cells.cell (Cells.alloc C7.out (.cells #[.int .i64 0,.int .i64 0,.slice none 0 0] 51)) 2;have f3:(w7.alloc (.cells #[.int .i64 0,.int .i64 0,.slice none 0 0] 51)).frozen? ⟨dg,3,none⟩=false:=Cells.frozen (Cells.alloc C7.out _) 3;have z3:=Cells.cell (Cells.alloc C7.out (.cells #[.int .i64 0,.int .i64 0,.slice none 0 0] 51)) 3;have U:=Pk.mov4 (w7.alloc (.cells #[.int .i64 0,.int .i64 0,.slice none 0 0] 51)) dg (.int .i64 X7.cap) (.int .i64 X7.op) (.int .i64 X7.ac) (.slice X7.A X7.n X7.c);unfold Pk.set4W at U;have Z7:Hid (Cells (((((w7.alloc (.cells #[.int .i64 0,.int .i64 0,.slice none 0 0] 51)).setCell ⟨dg,0,none⟩ (.int .i64 X7.cap)).setCell ⟨dg,1,none⟩ (.int .i64 X7.op)).setCell ⟨dg,2,none⟩ (.int .i64 X7.ac)).setCell ⟨dg,3,none⟩ (.slice X7.A X7.n X7.c)) w7.heap.size 51 #[.int .i64 0,.int .i64 0,.slice none 0 0]):=(Cells.new _ _ _).mov U (by simp;have:=C7.out.lt;omega);have g0:=Cells.frozen Z7.out 0;have y0:=Cells.cell Z7.out 0;have g1:=Cells.frozen Z7.out 1;have y1:=Cells.cell Z7.out 1;have g2:=Cells.frozen Z7.out 2;have y2:=Cells.cell Z7.out 2;clear hb)
 clear f0 f1 f2 f3 z0 z1 z2 z3 g0 g1 g2 y0 y1 y2 m0 m1 m2 m3
 have bb:Below w7.heap.size w7 (w7.alloc (.cells #[.int .i64 0,.int .i64 0,.slice none 0 0] 51)):=(Below.refl _ w7).alloc (Nat.le_refl _) _
 have hlt:=C7.out.lt
 have cg:=Chg.mov (Cells.below C7.out bb) U
 have s:=fun(w:World) (i:Nat) (v:Value)=>Mov.set1 w (S:= [w7.heap.size]) (q:=w7.heap.size) (by simp) i v
 have V:Mov [w7.heap.size] (((((w7.alloc (.cells #[.int .i64 0,.int .i64 0,.slice none 0 0] 51)).setCell ⟨dg,0,none⟩ (.int .i64 X7.cap)).setCell ⟨dg,1,none⟩ (.int .i64 X7.op)).setCell ⟨dg,2,none⟩ (.int .i64 X7.ac)).setCell ⟨dg,3,none⟩ (.slice X7.A X7.n X7.c)) ((((((((w7.alloc (.cells #[.int .i64 0,.int .i64 0,.slice none 0 0] 51)).setCell ⟨dg,0,none⟩ (.int .i64 X7.cap)).setCell ⟨dg,1,none⟩ (.int .i64 X7.op)).setCell ⟨dg,2,none⟩ (.int .i64 X7.ac)).setCell ⟨dg,3,none⟩ (.slice X7.A X7.n X7.c)).setCell ⟨w7.heap.size,0,none⟩ (.int .i64 0)).setCell ⟨w7.heap.size,1,none⟩ (.int .i64 0)).setCell ⟨w7.heap.size,2,none⟩ (.slice DC 0 dk)):=((s _ _ _).trans (s _ _ _) (fun _ h=> .inl h)).trans (s _ _ _) (fun _ h=> .inl h)
 have cg2:=Chg.mov Z7.out V
 have D8:Hid (DevAt ((((((((w7.alloc (.cells #[.int .i64 0,.int .i64 0,.slice none 0 0] 51)).setCell ⟨dg,0,none⟩ (.int .i64 X7.cap)).setCell ⟨dg,1,none⟩ (.int .i64 X7.op)).setCell ⟨dg,2,none⟩ (.int .i64 X7.ac)).setCell ⟨dg,3,none⟩ (.slice X7.A X7.n X7.c)).setCell ⟨w7.heap.size,0,none⟩ (.int .i64 0)).setCell ⟨w7.heap.size,1,none⟩ (.int .i64 0)).setCell ⟨w7.heap.size,2,none⟩ (.slice DC 0 dk)) X7∧X7.p=⟨200,1,1,liveZ1⟩):=⟨devAt_mov (devAt_mov (hX.out.1.below bb) U (by intro g hg;rw[List.mem_singleton] at hg;subst hg;exact hX.out.2.2.box GD.out)) V (by intro g hg;rw[List.mem_singleton] at hg;subst hg;exact apd_late hX.out.1 (Nat.le_refl _)),hX.out.2.1⟩
 have C8:Hid (Cells ((((((((w7.alloc (.cells #[.int .i64 0,.int .i64 0,.slice none 0 0] 51)).setCell ⟨dg,0,none⟩ (.int .i64 X7.cap)).setCell ⟨dg,1,none⟩ (.int .i64 X7.op)).setCell ⟨dg,2,none⟩ (.int .i64 X7.ac)).setCell ⟨dg,3,none⟩ (.slice X7.A X7.n X7.c)).setCell ⟨w7.heap.size,0,none⟩ (.int .i64 0)).setCell ⟨w7.heap.size,1,none⟩ (.int .i64 0)).setCell ⟨w7.heap.size,2,none⟩ (.slice DC 0 dk)) dg 26 #[.int .i64 X7.cap,.int .i64 X7.op,.int .i64 X7.ac,.slice X7.A X7.n X7.c]):=by
  show Cells _ _ _ _
  have q:=Pk.set4 (Cells.below C7.out bb) (.int .i64 X7.cap) (.int .i64 X7.op) (.int .i64 X7.ac) (.slice X7.A X7.n X7.c)
  unfold Pk.set4W at q
  exact q.mov V (by simp;omega)
 have E8:Hid (Cells ((((((((w7.alloc (.cells #[.int .i64 0,.int .i64 0,.slice none 0 0] 51)).setCell ⟨dg,0,none⟩ (.int .i64 X7.cap)).setCell ⟨dg,1,none⟩ (.int .i64 X7.op)).setCell ⟨dg,2,none⟩ (.int .i64 X7.ac)).setCell ⟨dg,3,none⟩ (.slice X7.A X7.n X7.c)).setCell ⟨w7.heap.size,0,none⟩ (.int .i64 0)).setCell ⟨w7.heap.size,1,none⟩ (.int .i64 0)).setCell ⟨w7.heap.size,2,none⟩ (.slice DC 0 dk)) w7.heap.size 51 #[.int .i64 0,.int .i64 0,.slice DC 0 dk]):=by
  show Cells _ _ _ _
  simpa using((Z7.out.set_ 0 (.int .i64 0)).set_ 1 (.int .i64 0)).set_ 2 (.slice DC 0 dk)
 have L8:Hid (Below w.heap.size w ((((((((w7.alloc (.cells #[.int .i64 0,.int .i64 0,.slice none 0 0] 51)).setCell ⟨dg,0,none⟩ (.int .i64 X7.cap)).setCell ⟨dg,1,none⟩ (.int .i64 X7.op)).setCell ⟨dg,2,none⟩ (.int .i64 X7.ac)).setCell ⟨dg,3,none⟩ (.slice X7.A X7.n X7.c)).setCell ⟨w7.heap.size,0,none⟩ (.int .i64 0)).setCell ⟨w7.heap.size,1,none⟩ (.int .i64 0)).setCell ⟨w7.heap.size,2,none⟩ (.slice DC 0 dk))):=((L7.out.trans (bb.mono L7.out.size)).trans (U.below (by have:=L7.out.size;simp;omega) (by intro x hx;rw[List.mem_singleton] at hx;have:=G3.out;omega))).trans (V.below (by have:=L7.out.size;simp;omega) (by intro x hx;rw[List.mem_singleton] at hx;have:=L7.out.size;omega))
 have O8:Hid (Row cb ((((((((w7.alloc (.cells #[.int .i64 0,.int .i64 0,.slice none 0 0] 51)).setCell ⟨dg,0,none⟩ (.int .i64 X7.cap)).setCell ⟨dg,1,none⟩ (.int .i64 X7.op)).setCell ⟨dg,2,none⟩ (.int .i64 X7.ac)).setCell ⟨dg,3,none⟩ (.slice X7.A X7.n X7.c)).setCell ⟨w7.heap.size,0,none⟩ (.int .i64 0)).setCell ⟨w7.heap.size,1,none⟩ (.int .i64 0)).setCell ⟨w7.heap.size,2,none⟩ (.slice DC 0 dk)) (some ⟨tg,0,none⟩) 16 16 liveT):=row_mov (row_mov (Row.below O7.out bb) U (fun q o e=>by injection e with e;injection e with e;have:=GTD.out;simp;omega)) V (fun q o e=>by injection e with e;injection e with e;have:=GTD.out;have:=GT7.out;simp;omega)
 generalize(((((((w7.alloc (.cells #[.int .i64 0,.int .i64 0,.slice none 0 0] 51)).setCell ⟨dg,0,none⟩ (.int .i64 X7.cap)).setCell ⟨dg,1,none⟩ (.int .i64 X7.op)).setCell ⟨dg,2,none⟩ (.int .i64 X7.ac)).setCell ⟨dg,3,none⟩ (.slice X7.A X7.n X7.c)).setCell ⟨w7.heap.size,0,none⟩ (.int .i64 0)).setCell ⟨w7.heap.size,1,none⟩ (.int .i64 0)).setCell ⟨w7.heap.size,2,none⟩ (.slice DC 0 dk)=w8 at*
 generalize w7.heap.size=en at*
 clear bb hlt cg s V cg2 U Z7 C7 O7 L7 L6 C6 D6 O6 hX HDO hB GD G3 T4 GTD GT4 GT6 GT7
 have HMP:=Lib.hid (mapL D8.out.1 D8.out.2)
 have m0:=Cells.cell C8.out 0
 have m1:=Cells.cell C8.out 1
 have m2:=Cells.cell C8.out 2
 have m3:=Cells.cell C8.out 3
 go_upto_region 6 with(go_at_call 10;refine HMP.out.mono ?_;rintro e w9 ⟨MB,md,rfl,hO,hb⟩;have K9:=Lib.hid hb;have R9:=Lib.hid (OwnsL.row hO.out (by omega));clear hb hO)
 clear m0 m1 m2 m3
 have HBY:=Lib.hid (bytesL (D8.out.1.below K9.out) D8.out.2 R9.out)
 have C9:=Lib.hid (Cells.below C8.out K9.out)
 have m0:=Cells.cell C9.out 0
 have m1:=Cells.cell C9.out 1
 have m2:=Cells.cell C9.out 2
 have m3:=Cells.cell C9.out 3
 go_upto_region 7 with(go_at_call 13;refine HBY.out.mono ?_;rintro e w10 ⟨BB,bd,rfl,hR,hb⟩;have K10:=Lib.hid (K9.out.trans (hb.mono K9.out.size));have R10:=Lib.hid (RowS.below R9.out hb);have Y10:=Lib.hid hR.out;clear hb hR)
 clear m0 m1 m2 m3 C9 R9 HBY
 have HHD:=Lib.hid (headsL (D8.out.1.below K10.out) D8.out.2)
 have C10:=Lib.hid (Cells.below C8.out K10.out)
 have m0:=Cells.cell C10.out 0
 have m1:=Cells.cell C10.out 1
 have m2:=Cells.cell C10.out 2
 have m3:=Cells.cell C10.out 3
 go_upto_region 8 with(go_at_call 20;refine HHD.out.mono ?_;rintro e w11 ⟨hb1,ho1,hc1,rfl,hH,hb⟩;have K11:=Lib.hid (K10.out.trans (hb.mono K10.out.size));have R11:=Lib.hid (RowS.below R10.out hb);have Y11:=Lib.hid (Row.below Y10.out hb);clear hb)
 clear m0 m1 m2 m3 C10 R10 Y10 HHD K9 K10
 have C11:=Lib.hid (Cells.below C8.out K11.out)
 have E11:=Lib.hid (Cells.below E8.out K11.out)
 have O11:=Lib.hid (Row.below O8.out K11.out)
 have L11:=Lib.hid (L8.out.trans (K11.out.mono L8.out.size))
 obtain⟨xb,xo,hxA,-⟩:=Ext.RowS.ext_at R11.out (i:=0) (x:=liveX) rfl
 subst hxA
 have dr:=(Below.refl w11.heap.size w11).drew
 have C12:=Lib.hid (Cells.below C11.out dr)
 have E12:=Lib.hid (Cells.below E11.out dr)
 have O12:=Lib.hid (Row.below O11.out dr)
 have Y12:=Lib.hid (Row.below Y11.out dr)
 have R12:=Lib.hid (RowS.below R11.out dr)
 have L12:=Lib.hid (L11.out.trans (dr.mono L11.out.size))
 have D12:Hid (DevAt w11.drew X7∧X7.p=⟨200,1,1,liveZ1⟩):=⟨(D8.out.1.below K11.out).below dr,D8.out.2⟩
 have H12:Hid (hb1<w11.drew.heap.size∧w11.drew.cell? ⟨hb1,ho1,none⟩=some (.int .i64 1)∧w11.drew.cell? ⟨hb1,ho1+3,none⟩=some (.int .i64 (-1))):=hH.out
 have hadd:=str_add liveT (List.replicate 16 0#8)
 have hsz:¬9223372036854775807<(str liveT).size+(str (List.replicate 16 0#8)).size:=by rw[str_size,str_size,liveT_len,List.length_replicate];omega
 simp only[List.append_eq,List.cons_append,List.nil_append]
 have HSW:Hid (∀W,Below w11.drew.heap.size w11.drew W→(convert 37 9 (.slice BB 32 bd)).run Tryz.prog W= .ok (.string (str (liveT++List.replicate 16 0#8))) W∧(convert 37 9 (.slice (some ⟨tg,0,none⟩) 16 16)).run Tryz.prog W= .ok (.string (str liveT)) W∧W.cell? ⟨en,0,none⟩=some (.int .i64 0)∧W.cell? ⟨xb,xo,none⟩=some (.int .i64 7)∧W.cell? ⟨hb1,ho1,none⟩=some (.int .i64 1)∧W.cell? ⟨hb1,ho1+3,none⟩=some (.int .i64 (-1))∧W.cell? ⟨dg,0,none⟩=some (.int .i64 X7.cap)∧W.cell? ⟨dg,1,none⟩=some (.int .i64 X7.op)∧W.cell? ⟨dg,2,none⟩=some (.int .i64 X7.ac)∧W.cell? ⟨dg,3,none⟩=some (.slice X7.A X7.n X7.c)):=by
  intro W hW
  have c:=Cells.below C12.out hW
  obtain⟨xb',xo',hxA',x0,-⟩:=Ext.RowS.ext_at (RowS.below R12.out hW) (i:=0) (x:=liveX) rfl
  injection hxA' with hxA'
  injection hxA' with e1 e2
  subst e1 e2
  refine⟨run_str (Row.below Y12.out hW),run_str (Row.below O12.out hW),Cells.cell (Cells.below E12.out hW) 0,by simpa [liveX] using x0,(World.cell?_of_block (hW.block _ H12.out.1)).trans H12.out.2.1,(World.cell?_of_block (hW.block _ H12.out.1)).trans H12.out.2.2,Cells.cell c 0,Cells.cell c 1,Cells.cell c 2,Cells.cell c 3⟩
 clear C11 E11 O11 Y11 R11 L11 D8 hH K11 R12 Y12 E12 C12 O12 H12
 refine wp_region_held_drew (S:=fun W=>(convert 37 9 (.slice BB 32 bd)).run Tryz.prog W= .ok (.string (str (liveT++List.replicate 16 0#8))) W∧(convert 37 9 (.slice (some ⟨tg,0,none⟩) 16 16)).run Tryz.prog W= .ok (.string (str liveT)) W∧W.cell? ⟨en,0,none⟩=some (.int .i64 0)∧W.cell? ⟨xb,xo,none⟩=some (.int .i64 7)∧W.cell? ⟨hb1,ho1,none⟩=some (.int .i64 1)∧W.cell? ⟨hb1,ho1+3,none⟩=some (.int .i64 (-1))∧W.cell? ⟨dg,0,none⟩=some (.int .i64 X7.cap)∧W.cell? ⟨dg,1,none⟩=some (.int .i64 X7.op)∧W.cell? ⟨dg,2,none⟩=some (.int .i64 X7.ac)∧W.cell? ⟨dg,3,none⟩=some (.slice X7.A X7.n X7.c)) (by kernel_rfl) (HSW.out _ (Below.refl _ _)) (fun hHeld=> ?_)
 generalize w11.drew=w12 at*
 clear dr C8 E8 L8 O8 HMP
 have hmk:(Instr.makeSlice 37 (.int .i64 16) (.int .i64 16)).run Tryz.prog w12= .ok (.slice (some ⟨w12.heap.size,0,none⟩) 16 16) (w12.alloc (.cells (madeCells #[.int .u8 0] 16) 5)):=run_makeB w12 16 (by omega)
 have s3:=run_str (madeB w12 16 (by omega))
 have b13:Below w12.heap.size w12 (w12.alloc (.cells (madeCells #[.int .u8 0] 16) 5)):=(Below.refl _ w12).alloc (Nat.le_refl _) _
 have B13:=Lib.hid b13
 have L13:=Lib.hid (L12.out.trans (b13.mono L12.out.size))
 have HNW:=Lib.hid (newestL (D12.out.1.below b13) D12.out.2)
 clear b13
 generalize liveT++List.replicate 16 0#8=TT at*
 generalize List.replicate 16 0#8=TZ at*
 generalize liveT=TX at*
 refine Reg.tk 0 rfl ?_
 refine Reg.tk 1 rfl ?_
 refine Reg.tk 2 rfl ?_
 refine Reg.tk 3 rfl ?_
 refine Reg.tk 4 rfl ?_
 refine Reg.tk 5 rfl ?_
 refine Reg.tk 6 rfl ?_
 refine Reg.tk 7 rfl ?_
 refine Reg.tk 8 rfl ?_
 refine Reg.tk 9 rfl ?_
 refine Reg.tk 10 rfl ?_
 refine Reg.tk 11 rfl ?_
 refine Reg.tk 12 rfl ?_
 refine Reg.tk 13 rfl ?_
 refine Reg.tk 14 rfl ?_
 refine Reg.tk 15 rfl ?_
 refine Reg.tk 16 rfl ?_
 refine Reg.tk 17 rfl ?_
 refine Reg.tk 18 rfl ?_
 refine Reg.tk 19 rfl ?_
 refine Reg.tk 20 rfl ?_
 refine Reg.tk 21 rfl ?_
 refine Reg.tk 22 rfl ?_
 refine Reg.tk 23 rfl ?_
 refine Reg.tk 24 rfl ?_
 refine Reg.tk 25 rfl ?_
 refine Reg.tk 26 rfl ?_
 refine Reg.tk 27 rfl ?_
 refine Reg.tk 28 rfl ?_
 refine Reg.tk 29 rfl ?_
 refine Reg.tk 30 rfl ?_
 refine Reg.tk 31 rfl ?_
 refine Reg.tk 32 rfl ?_
 refine Reg.tk 33 rfl ?_
 refine Reg.tk 34 rfl ?_
 refine Reg.tk 35 rfl ?_
 refine Reg.step 36 rfl (by kernel_rfl) (by rfl) (fun K hK=> ?_)
 go_simp
 generalize w12.alloc (.cells (madeCells #[.int .u8 0] 16) 5)=w13 at*
 refine hK.out _ _ (HSW.out _ B13.out) (fun hHeld2=> ?_)
 clear hK K hHeld hmk
 (try simp only[Act.put,List.setIfInBounds_toArray,List.set_cons_zero,List.set_cons_succ])
 refine Reg.step 37 rfl (by kernel_rfl) (by rfl) (fun K hK=> ?_)
 go_simp
 refine hK.out _ _ (HSW.out _ B13.out) (fun hHeld3=> ?_)
 clear hK K hHeld2 s3
 (try simp only[Act.put,List.setIfInBounds_toArray,List.set_cons_zero,List.set_cons_succ])
 refine Reg.tk 38 rfl ?_
 refine Reg.tk 39 rfl ?_
 refine Reg.tk 40 rfl ?_
 refine Reg.tk 41 rfl ?_
 refine Reg.tk 42 rfl ?_
 refine Reg.tk 43 rfl ?_
 refine Reg.tk 44 rfl ?_
 refine Reg.tk 45 rfl ?_
 refine Reg.tk 46 rfl ?_
 refine Reg.tk 47 rfl ?_
 refine Reg.tk 48 rfl ?_
 refine Reg.tk 49 rfl ?_
 refine Reg.tk 50 rfl ?_
 refine Reg.tk 51 rfl ?_
 refine Reg.tk 52 rfl ?_
 refine Reg.tk 53 rfl ?_
 refine Reg.tk 54 rfl ?_
 refine Reg.tk 55 rfl ?_
 refine Reg.tk 56 rfl ?_
 refine Reg.tk 57 rfl ?_
 refine Reg.tk 58 rfl ?_
 refine Reg.tk 59 rfl ?_
 refine Reg.tk 60 rfl ?_
 refine Reg.tk 61 rfl ?_
 refine Reg.step 62 rfl (by kernel_rfl) (by rfl) (fun K hK=> ?_)
 go_simp
 refine HNW.out.mono ?_
 rintro e w14 ⟨rfl,hb⟩
 have L14:=Lib.hid (L13.out.trans (hb.mono L13.out.size))
 refine hK.out _ _ (HSW.out _ (B13.out.trans (hb.mono B13.out.size))) (fun hHeld4=> ?_)
 clear hK K hHeld3 hb
 (try simp only[Act.put,List.setIfInBounds_toArray,List.set_cons_zero,List.set_cons_succ])
 refine Reg.tk 63 rfl ?_
 refine Reg.tk 64 rfl ?_
 refine Reg.tk 65 rfl ?_
 refine wpAnyH_done (by kernel_rfl) ?_ _
 clear hHeld4
 go_wp2_with fail
 go_ret
 exact⟨rfl,L14.out⟩
end Rp
end
end Go.Proofs.YtmkagjnkpjpjcaaGreat
