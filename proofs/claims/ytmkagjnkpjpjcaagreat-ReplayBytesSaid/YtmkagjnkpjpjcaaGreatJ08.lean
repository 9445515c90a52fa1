/-
  SEVERAL TEXTS IN ONE FILE: PSegRec, PSegHead, PSegTake, PSegTakeR, PSegRows.
-/
import Derived.Test.YtmkagjnkpjpjcaaGreatJ07
import Derived.Laws.ResultCell
namespace Go.Proofs.YtmkagjnkpjpjcaaGreat
set_option maxRecDepth 100000
set_option linter.unusedSimpArgs false
set_option linter.unusedVariables false
set_option maxHeartbeats 3200000
section
open Go.RowKit Mem
namespace Seg
open Wire
theorem check_at {r:Rc} {e:Nat} (hc:check r=e) (hf:fits (nums r)) (D:Option Addr) (n c:Nat) (hn:r.data.length=n) (hb:n≤140737488351232) (w:World):
  Calls Tryz.prog 48 #[recV r D n c] w fun en w'=>en= .returned (.int .i64 (e:Nat))∧Below w.heap.size w w':=by
 rw[←hc];exact check_any r hf D n c hn hb w
structure RS (g k:Nat) (w0:World) (r:Rc) (D:Option Addr) (n c:Nat) (w:World):Prop where
 keep:Crc.Keep g w0 w
 tab:Tk g k w
 fb:w.heap[w0.heap.size]? =some (.cells #[.pointer (some ⟨g,0,none⟩)] 104 (0,0))
 box:Box w (w0.heap.size+1) r D n c
section
variable {g k:Nat} {w0 w w':World} {r:Rc} {D:Option Addr} {n c:Nat}
theorem RS.below (h:RS g k w0 r D n c w) (hb:Below w.heap.size w w'):RS g k w0 r D n c w':=
 ⟨h.keep.trans (keep_of_below hb),h.tab.below hb,(hb.block _ (Array.getElem?_eq_some_iff.1 h.fb).1).trans h.fb,h.box.below hb⟩
theorem RS.alloc (h:RS g k w0 r D n c w) (o:Obj):RS g k w0 r D n c (w.alloc o):=h.below ((Below.refl _ w).alloc (Nat.le_refl _) o)
theorem RS.c0 (h:RS g k w0 r D n c w):w.cell? ⟨w0.heap.size,0,none⟩=some (.pointer (some ⟨g,0,none⟩)):=cell_of_row _ _ _ _ _ _ h.fb
theorem RS.start (ht:Tk g k w):RS g k w r D n c ((w.alloc (.cells #[.pointer (some ⟨g,0,none⟩)] 104)).alloc (.cells #[.int .i64 r.kind,.int .i64 r.lba,.int .i64 r.n,.int .i64 r.ver,.int .i64 r.zone,.int .i64 r.off,.slice D n c] 49)):=
 ⟨((Crc.Keep.refl g w).alloc _).alloc _,(ht.alloc _).alloc _,heap_alloc2_old w _ _,heap_alloc2_new w _ _⟩
end
theorem rec_bad {g k:Nat} {r:Rc} {D:Option Addr} {n c:Nat} {w:World} (ht:Tk g k w) (hf:fits (nums r)) (h:RowO g w D n c r.data) (e:Nat) (he:e=1∨e=2) (hc:check r=e):
  Calls Tryz.prog 40 #[frV g,recV r D n c] w fun en w'=>GaveK g w [] e en w'∧Tk g (k+1) w':=by
 have HC:=fun w=>Lib.hid (check_at hc hf D n c h.row.len h.row.big w)
 have R1:=Lib.hid (RS.start (r:=r) (D:=D) (n:=n) (c:=c) ht)
 unfold frV recV at*
 clear ht hf h hc
 rcases he with rfl|rfl
 all_goals
  go_enter Tryz.func40,Tryz.ntmps40
  go_wp2_with fail
  generalize(w.alloc (.cells #[.pointer (some ⟨g,0,none⟩)] 104)).alloc (.cells #[.int .i64 r.kind,.int .i64 r.lba,.int .i64 r.n,.int .i64 r.ver,.int .i64 r.zone,.int .i64 r.off,.slice D n c] 49)=w1 at*
  refine(HC w1).out.mono ?_
  rintro en w2 ⟨rfl,hb2⟩
  have R2:=Lib.hid (R1.out.below hb2)
  clear hb2 R1 HC
  go_wp2_with fail
  go_ret2
  exact⟨⟨none,0,0,rfl,Owns.nil _ _ _ _,R2.out.keep⟩,R2.out.tab.mono (by omega)⟩
theorem rec_ok {g k:Nat} {r:Rc} {D:Option Addr} {n c:Nat} {w:World} (ht:Tk g k w) (hk:k≤1000000000000000000) (hf:fits (nums r)) (h:RowO g w D n c r.data) (hc:check r=0):
  Calls Tryz.prog 40 #[frV g,recV r D n c] w fun en w'=>GaveK g w (frame (recX r)) 0 en w'∧Tk g (k+1) w':=by
 have hg:=ht.lt
 obtain⟨hnn,hd⟩:=check_ok hc
 have HC:=fun w=>Lib.hid (check_at hc hf D n c h.row.len h.row.big w)
 have HO:=fun w=>Lib.hid (numbersOf_any r D n c w)
 have HNm:=fun w b (hr:Row ci w (some ⟨b,0,none⟩) 6 6 (nums r))=>Lib.hid (nums_any hr hf (by omega))
 have HV:=fun w (h:Row cb w D n c r.data)=>Lib.hid (vec_ok h (by have:=h.len;omega))
 have hx:Hid (encs ((nums r).map Int.toNat)++encV r.data=recX r):=rfl
 have hxl:=recX_len hf hc
 have HF:=fun w1 A n c (ht:Tk g k w1) (h:RowO g w1 A n c (recX r))=>Lib.hid (frame_any ht hk h (by have:=h.row.len;omega))
 have R1:=Lib.hid (RS.start (r:=r) (D:=D) (n:=n) (c:=c) ht)
 have HR:=Lib.hid h
 have HN:=Lib.hid hnn
 have FN:=Lib.hid (fits_nat hf hnn)
 have HX:=Lib.hid hxl
 unfold frV recV numsV at*
 clear ht hf h hc hnn hxl
 go_enter Tryz.func40,Tryz.ntmps40
 go_wp2_with fail
 generalize(w.alloc (.cells #[.pointer (some ⟨g,0,none⟩)] 104)).alloc (.cells #[.int .i64 r.kind,.int .i64 r.lba,.int .i64 r.n,.int .i64 r.ver,.int .i64 r.zone,.int .i64 r.off,.slice D n c] 49)=w1 at*
 refine(HC w1).out.mono ?_
 rintro en w2 ⟨rfl,hb2⟩
 have R2:=Lib.hid (R1.out.below hb2)
 obtain⟨c0,c1,c2,c3,c4,c5,c6⟩:=R2.out.box.cells
 clear hb2 R1 HC
 go_wp2_with fail
 refine(HO w2).out.mono ?_
 rintro en w3 ⟨rfl,hb3⟩
 have R3:=Lib.hid (R2.out.below hb3)
 clear hb3 R2 c0 c1 c2 c3 c4 c5 c6 HO
 go_wp2_with fail
 have R4:=Lib.hid (R3.out.alloc (.cells #[.int .i64 r.kind,.int .i64 r.lba,.int .i64 r.n,.int .i64 r.ver,.int .i64 r.zone,.int .i64 r.off] 140))
 refine(HNm _ w3.heap.size (row_nums (heap_alloc_new w3 _))).out.mono ?_
 generalize w3.alloc (.cells #[.int .i64 r.kind,.int .i64 r.lba,.int .i64 r.n,.int .i64 r.ver,.int .i64 r.zone,.int .i64 r.off] 140)=w4 at*
 rintro en w5 (⟨-,X,j,d,rfl,hX,hb5⟩|⟨⟨z,hz,hneg⟩,-,-⟩)
 ·have R5:=Lib.hid (R4.out.below hb5)
  have O5:=Lib.hid (hX.mono (base':=w.heap.size+2) R4.out.box.lt)
  obtain⟨c0,c1,c2,c3,c4,c5,c6⟩:=R5.out.box.cells
  have hj:Hid (j≤60):=by
   have h1:=hX.len
   have h2:=encs_len (l:=(nums r).map Int.toNat) (fun x hx=>by
    have:=FN.out x hx
    omega)
   have h3:((nums r).map Int.toNat).length=6:=rfl
   show j≤60
   omega
  clear hX hb5 R3 R4 HNm
  go_wp2_with fail
  refine(HV w5 (HR.out.keep R5.out.keep).row).out.mono ?_
  rintro en w6 ⟨Y,j2,d2,rfl,hY,hb6⟩
  have R6:=Lib.hid (R5.out.below hb6)
  have O6:=Lib.hid (O5.out.below hb6)
  have hj2:Hid (j2≤40000):=by
   have h1:=hY.len
   have h2:=HX.out
   rw[←hx.out,List.length_append] at h2
   show j2≤40000
   omega
  obtain⟨Y',c8,e5,hrow⟩:=hY.row (by have:=hj2.out;omega)
  obtain⟨rfl,-,rfl⟩:Y=Y'∧j2=j2∧d2=c8:=by simpa using e5
  have RY:=Lib.hid hrow
  have e0:=R6.out.c0
  clear hY hb6 e5 hrow c0 c1 c2 c3 c4 c5 c6 R5 O5 HV
  go_wp2_with fail
  have e0d:w6.drew.cell? ⟨w.heap.size,0,none⟩=some (.pointer (some ⟨g,0,none⟩)):=e0
  refine wp_region_held_drew (S:=fun W=>W.cell? ⟨w.heap.size,0,none⟩=some (.pointer (some ⟨g,0,none⟩))) (by kernel_rfl) e0d (fun hHeld=> ?_)
  refine Reg.tk 0 rfl ?_
  refine Reg.tk 1 rfl ?_
  refine Reg.tk 2 rfl ?_
  refine Reg.step 3 rfl (by kernel_rfl) (by rfl) (fun K hK=> ?_)
  refine wp_append_row cb_one Tryz.underlying37 info_byte rfl (.tmp 36) (.tmp 37) rfl rfl (w.heap.size+2) (.slice X j d) j _ rfl O6.out.drew Y j2 d2 _ rfl RY.out.drew (by have:=hj.out;have:=hj2.out;omega) (by have:=hj.out;have:=hj2.out;omega) R6.out.box.lt ?_
  intro A7 k7 w7 hO7 hb7
  rw[hx.out] at hO7
  have hb7:Below (w.heap.size+2) w6 w7:=(Below.refl _ w6).drew.trans hb7
  have K7:=Lib.hid (Keep.then_below R6.out.keep (hb7.mono (by omega)))
  have T7:=Lib.hid (R6.out.tab.heap (hb7.block g (by omega)))
  have e7:w7.cell? ⟨w.heap.size,0,none⟩=some (.pointer (some ⟨g,0,none⟩)):=cell_of_row _ _ _ _ _ _ ((hb7.block w.heap.size (by omega)).trans R6.out.fb)
  have O7:=Lib.hid (hO7.mono (base':=w.heap.size) (by omega))
  have R7:=Lib.hid (RowO.of_own O7.out (by have:=hj.out;have:=hj2.out;omega) hg)
  refine hK.out _ _ e7 (fun hHeld7=> ?_)
  clear hK K hHeld e0d e0 hO7 hb7
  (try simp only[Act.put,List.setIfInBounds_toArray,List.set_cons_zero,List.set_cons_succ])
  refine Reg.step 4 rfl (by kernel_rfl) (by rfl) (fun K hK=> ?_)
  go_simp
  refine(HF w7 _ _ _ T7.out R7.out).out.mono ?_
  rintro en w8 ⟨⟨B,k8,d8,rfl,hO8,hK8⟩,hT8⟩
  have O8:=Lib.hid (hO8.mono K7.out.1.size)
  have K8:=Lib.hid (K7.out.trans hK8)
  have T8:=Lib.hid hT8
  have e8:w8.cell? ⟨w.heap.size,0,none⟩=some (.pointer (some ⟨g,0,none⟩)):=hK8.cell (p:=⟨w.heap.size,0,none⟩) e7 (by show w.heap.size≠g;omega)
  refine hK.out _ _ e8 (fun hHeld8=> ?_)
  clear hK K hHeld7 e7 hO8 hK8 hT8
  (try simp only[Act.put,List.setIfInBounds_toArray,List.set_cons_zero,List.set_cons_succ])
  refine Reg.tk 5 rfl ?_
  refine Reg.tk 6 rfl ?_
  refine Reg.tk 7 rfl ?_
  refine Reg.tk 8 rfl ?_
  refine wpAnyH_done (by kernel_rfl) ?_ _
  go_wp2_with fail
  go_ret2
  exact⟨⟨B,k8,d8,rfl,O8.out,K8.out⟩,T8.out⟩
 ·exact absurd (HN.out z hz) (by omega)
theorem rec_any {g k:Nat} {r:Rc} {D:Option Addr} {n c:Nat} {w:World} (ht:Tk g k w) (hk:k≤1000000000000000000) (hf:fits (nums r)) (h:RowO g w D n c r.data):
  Calls Tryz.prog 40 #[frV g,recV r D n c] w fun en w'=>GaveK g w (recB r).1 (recB r).2 en w'∧Tk g (k+1) w':=by
 unfold recB
 by_cases hc:check r=0
 ·rw[if_pos hc]
  exact rec_ok ht hk hf h hc
 ·rw[if_neg hc]
  refine rec_bad ht hf h (check r) ?_ rfl
  rcases check_le r with h|h|h
  ·exact absurd h hc
  ·exact .inl h
  ·exact .inr h
end Seg
end
section
open Go.RowKit Mem
namespace Seg
open Wire
abbrev Gv (w:World) (l:List B8) (er:Int) (en:Ending) (w':World):Prop:=GaveE cb 5 w.heap.size w l er en w'
theorem rec_outer {r:Rc} {D:Option Addr} {n c:Nat} {w:World} (hf:fits (nums r)) (h:Row cb w D n c r.data):
  Calls Tryz.prog 15 #[recV r D n c] w (Gv w (recB r).1 (recB r).2):=by
 have HR:=Lib.hid h
 have HF:=fun(g:Nat) (w:World) (ht:Tk g 0 w) (h:RowO g w D n c r.data)=>Lib.hid (rec_any (n:=n) (c:=c) ht (by omega) hf h)
 have B1:=Lib.hid (Box.new w r D n c)
 have L1:=Lib.hid ((Below.refl w.heap.size w).alloc (Nat.le_refl _) (.cells #[.int .i64 r.kind,.int .i64 r.lba,.int .i64 r.n,.int .i64 r.ver,.int .i64 r.zone,.int .i64 r.off,.slice D n c] 49))
 unfold recV frV at*
 clear hf h
 go_enter Tryz.func15,Tryz.ntmps15
 go_wp2_with fail
 have hc:=B1.out.cells
 generalize w.alloc (.cells #[.int .i64 r.kind,.int .i64 r.lba,.int .i64 r.n,.int .i64 r.ver,.int .i64 r.zone,.int .i64 r.off,.slice D n c] 49)=w1 at*
 refine wp_region_held_drew (S:=fun W=>W.cell? ⟨w.heap.size,0,none⟩=some (.int .i64 r.kind)∧W.cell? ⟨w.heap.size,1,none⟩=some (.int .i64 r.lba)∧W.cell? ⟨w.heap.size,2,none⟩=some (.int .i64 r.n)∧W.cell? ⟨w.heap.size,3,none⟩=some (.int .i64 r.ver)∧W.cell? ⟨w.heap.size,4,none⟩=some (.int .i64 r.zone)∧W.cell? ⟨w.heap.size,5,none⟩=some (.int .i64 r.off)∧W.cell? ⟨w.heap.size,6,none⟩=some (.slice D n c))
  (by kernel_rfl) hc (fun hHeld=> ?_)
 refine Reg.tk 1 rfl ?_
 refine Reg.step 0 rfl (by kernel_rfl) (by rfl) (fun K hK=> ?_)
 go_simp
 refine(newFrames_any _).mono ?_
 rintro e w2 ⟨g,hg,rfl,hT,hb2⟩
 unfold frV
 have hb2:Below w1.heap.size w1 w2:=(Below.refl _ w1).drew.trans hb2
 have L2:=Lib.hid (L1.out.trans (hb2.mono L1.out.size))
 have hgl:Hid (w.heap.size≤g):=Nat.le_trans L1.out.size hg
 have c2:=(B1.out.below hb2).cells
 have hwg:w.heap.size<g:=Nat.lt_of_lt_of_le B1.out.lt hg
 have B2:=Lib.hid (B1.out.below hb2)
 have T2:=Lib.hid hT
 refine hK.out _ _ c2 (fun hHeld2=> ?_)
 clear hK K hHeld hb2 hT hc c2
 (try simp only[Act.put,List.setIfInBounds_toArray,List.set_cons_zero,List.set_cons_succ])
 refine Reg.step 2 rfl (by kernel_rfl) (by rfl) (fun K hK=> ?_)
 go_simp
 have RO:RowO g w2 D n c r.data:=by
  have h0:=RowO.of_low HR.out hgl.out
  refine⟨HR.out.below L2.out,h0.off⟩
 refine(HF g w2 T2.out RO).out.mono ?_
 rintro e w3 ⟨⟨X,j,d,rfl,hO,hK3⟩,-⟩
 have c3:=(Box.keep B2.out (Nat.ne_of_lt hwg) hK3).cells
 have L3:=Lib.hid (L2.out.trans (hK3.low (B:=w.heap.size) hgl.out L2.out.size))
 have O3:=Lib.hid (hO.mono L2.out.size)
 refine hK.out _ _ c3 (fun hHeld3=> ?_)
 clear hK K hHeld2 hO hK3 HF
 (try simp only[Act.put,List.setIfInBounds_toArray,List.set_cons_zero,List.set_cons_succ])
 generalize recB r=q at*
 refine Reg.tk 3 rfl ?_
 refine Reg.tk 4 rfl ?_
 refine Reg.tk 5 rfl ?_
 refine Reg.tk 6 rfl ?_
 refine wpAnyH_done (by kernel_rfl) ?_ _
 go_wp2_with fail
 go_ret2
 exact⟨X,j,d,rfl,O3.out,L3.out⟩
theorem hbox_cells {w:World} {g:Nat} {h:Hdr} (hb:w.heap[g]? =some (.cells #[.int .i64 h.host,.int .i64 h.epoch,.int .i64 h.seq] 68 (0,0))):
  w.cell? ⟨g,0,none⟩=some (.int .i64 h.host)∧w.cell? ⟨g,1,none⟩=some (.int .i64 h.epoch)∧w.cell? ⟨g,2,none⟩=some (.int .i64 h.seq):=by
 have hc:=fun i=>cell_of_row w g i _ _ _ hb
 exact⟨hc 0,hc 1,hc 2⟩
theorem head_outer {h:Hdr} {w:World} (hf:fits (hnums h)):
  Calls Tryz.prog 46 #[hdV h] w (Gv w (headB h).1 (headB h).2):=by
 have HF:=fun(g:Nat) (w:World) (ht:Tk g 0 w)=>Lib.hid (head_any ht (by omega) hf)
 have B1:Hid ((w.alloc (.cells #[.int .i64 h.host,.int .i64 h.epoch,.int .i64 h.seq] 68)).heap[w.heap.size]? =some (.cells #[.int .i64 h.host,.int .i64 h.epoch,.int .i64 h.seq] 68 (0,0))):=heap_alloc_new w _
 have L1:=Lib.hid ((Below.refl w.heap.size w).alloc (Nat.le_refl _) (.cells #[.int .i64 h.host,.int .i64 h.epoch,.int .i64 h.seq] 68))
 have S1:Hid (w.heap.size<(w.alloc (.cells #[.int .i64 h.host,.int .i64 h.epoch,.int .i64 h.seq] 68)).heap.size):=by show _<_;simp
 unfold hdV frV at*
 clear hf
 go_enter Tryz.func46,Tryz.ntmps46
 go_wp2_with fail
 have hc:=hbox_cells B1.out
 generalize w.alloc (.cells #[.int .i64 h.host,.int .i64 h.epoch,.int .i64 h.seq] 68)=w1 at*
 refine wp_region_held_drew (S:=fun W=>W.cell? ⟨w.heap.size,0,none⟩=some (.int .i64 h.host)∧W.cell? ⟨w.heap.size,1,none⟩=some (.int .i64 h.epoch)∧W.cell? ⟨w.heap.size,2,none⟩=some (.int .i64 h.seq))
  (by kernel_rfl) hc (fun hHeld=> ?_)
 refine Reg.tk 1 rfl ?_
 refine Reg.step 0 rfl (by kernel_rfl) (by rfl) (fun K hK=> ?_)
 go_simp
 refine(newFrames_any _).mono ?_
 rintro e w2 ⟨g,hg,rfl,hT,hb2⟩
 unfold frV
 have hb2:Below w1.heap.size w1 w2:=(Below.refl _ w1).drew.trans hb2
 have L2:=Lib.hid (L1.out.trans (hb2.mono L1.out.size))
 have hgl:Hid (w.heap.size≤g):=Nat.le_trans L1.out.size hg
 have B2:=Lib.hid ((hb2.block _ S1.out).trans B1.out)
 have hwg:w.heap.size<g:=Nat.lt_of_lt_of_le S1.out hg
 have S2:=Lib.hid (Nat.lt_of_lt_of_le S1.out hb2.size)
 have T2:=Lib.hid hT
 refine hK.out _ _ (hbox_cells B2.out) (fun hHeld2=> ?_)
 clear hK K hHeld hb2 hT hc
 (try simp only[Act.put,List.setIfInBounds_toArray,List.set_cons_zero,List.set_cons_succ])
 refine Reg.step 2 rfl (by kernel_rfl) (by rfl) (fun K hK=> ?_)
 go_simp
 refine(HF g w2 T2.out).out.mono ?_
 rintro e w3 ⟨⟨X,j,d,rfl,hO,hK3⟩,-⟩
 have B3:=(Keep.block hK3 S2.out (Nat.ne_of_lt hwg)).trans B2.out
 have L3:=Lib.hid (L2.out.trans (hK3.low (B:=w.heap.size) hgl.out L2.out.size))
 have O3:=Lib.hid (hO.mono L2.out.size)
 refine hK.out _ _ (hbox_cells B3) (fun hHeld3=> ?_)
 clear hK K hHeld2 hO hK3 HF B3
 (try simp only[Act.put,List.setIfInBounds_toArray,List.set_cons_zero,List.set_cons_succ])
 generalize headB h=q at*
 refine Reg.tk 3 rfl ?_
 refine Reg.tk 4 rfl ?_
 refine Reg.tk 5 rfl ?_
 refine Reg.tk 6 rfl ?_
 refine wpAnyH_done (by kernel_rfl) ?_ _
 go_wp2_with fail
 go_ret2
 exact⟨X,j,d,rfl,O3.out,L3.out⟩
end Seg
end
section
open Go.RowKit Mem
namespace Seg
open Wire
theorem takeFixed_at {A:Option Addr} {n c:Nat} {l:List B8} {w:World} (h:Row cb w A n c l) {v e:Nat} (hf:(four l=none∧v=0∧e=20)∨(four l=some v∧e=0)):
  Calls Tryz.prog 123 #[.slice A n c] w (TookF v e w):=by
 rcases hf with⟨h4,rfl,rfl⟩|⟨h4,rfl⟩
 ·refine takeFixed_short h ?_
  rw[←h.len]
  match l,h4 with
  | [],_=>simp
  | [_],_=>simp
  | [_,_],_=>simp
  | [_,_,_],_=>simp
 ·match l,h4,h with
  |x::y::z::u::r,h4,h=>
   have e:v=Wire.dec4 x y z u:=by simp only[four,Option.some.injEq] at h4;exact h4.symm
   subst e
   exact takeFixed_long h
def TookK (g:Nat) (w:World) (o:Option (List B8 × Nat)) (en:Ending) (w':World):Prop:=
 (match o with
  |none=>en= .returned (.tuple #[.slice none 0 0,.int .i64 0,.bool false])
  |some (x,k)=>∃B j d,en= .returned (.tuple #[.slice B j d,.int .i64 (k:Int),.bool true])∧Owns cb 5 w.heap.size w' (.slice B j d) j x)∧Crc.Keep g w w'
theorem take_any {g k:Nat} {A:Option Addr} {n c:Nat} {b:List B8} {w:World} (ht:Tk g k w) (hk:k≤1000000000000000000) (h:RowO g w A n c b) (hn:n≤1000000):
  Calls Tryz.prog 83 #[frV g,.slice A n c] w fun en w'=>TookK g w (tk b) en w'∧Tk g (k+1) w':=by
 have hg:=ht.lt
 have HT:=Lib.hid ht
 have HR:=Lib.hid h
 rcases hv:vec1 b with⟨v,k1,e1⟩
 have HV:=fun w (h:Row cb w A n c b)=>Lib.hid (takeVec_at h (Nat.le_trans hn (by omega)) hv)
 have htk:tk b=if e1=0 then(if four (b.drop k1)=some (sumOf v) then some (v,k1+4) else none) else none:=by unfold tk;rw[hv]
 have K1:=Lib.hid ((Crc.Keep.refl g w).alloc (.cells #[.pointer (some ⟨g,0,none⟩)] 104))
 have T1:=Lib.hid (HT.out.alloc (.cells #[.pointer (some ⟨g,0,none⟩)] 104))
 have hh:=Lib.hid (heap_alloc_new w (.cells #[.pointer (some ⟨g,0,none⟩)] 104))
 have s1:Hid (w.heap.size<(w.alloc (.cells #[.pointer (some ⟨g,0,none⟩)] 104)).heap.size):=by show _<_;simp
 unfold frV
 clear ht h
 by_cases he:e1=0
 ·subst he
  rw[if_pos rfl] at htk
  obtain⟨v1,v2,v3,v4⟩:=vec1_one hv
  have hk1:k1≤n:=by have:=HR.out.row.len;omega
  have hcap:=HR.out.row.cap
  have hsl:=run_tail A n c k1 hk1
  clear v1 v2 hv
  by_cases h4:four (b.drop k1)=none
  ·have hr:Hid (tk b=none):=by show _=_;rw[htk,h4];simp
   have HF:=fun w (h:Row cb w (tailA A c k1) (n-k1) (c-k1) (b.drop k1))=>Lib.hid (takeFixed_at h (v:=0) (e:=20) (.inl ⟨h4,rfl,rfl⟩))
   clear htk h4
   go_enter Tryz.func83,Tryz.ntmps83
   go_wp2_with fail
   generalize w.alloc (.cells #[.pointer (some ⟨g,0,none⟩)] 104)=w1 at*
   refine(HV w1 (HR.out.keep K1.out).row).out.mono ?_
   rintro e w2 ⟨X,j,d,rfl,hX,hb2⟩
   have K2:=Lib.hid (K1.out.trans (keep_of_below hb2))
   have T2:=Lib.hid (T1.out.below hb2)
   clear hX hb2 K1 T1 HV
   go_wp2_with fail
   refine(HF w2 ((HR.out.keep K2.out).tail hk1).row).out.mono ?_
   rintro e w3 ⟨rfl,hb3⟩
   have K3:=Lib.hid (K2.out.trans (keep_of_below hb3))
   have T3:=Lib.hid (T2.out.below hb3)
   clear hb3 K2 T2 HF
   go_wp2_with fail
   go_ret3
   exact⟨⟨by rw[hr.out];rfl,K3.out⟩,T3.out.mono (by omega)⟩
  ·obtain⟨q,hq⟩:=Option.ne_none_iff_exists'.1 h4
   rw[hq] at htk
   have HF:=fun w (h:Row cb w (tailA A c k1) (n-k1) (c-k1) (b.drop k1))=>Lib.hid (takeFixed_at h (v:=q) (e:=0) (.inr ⟨hq,rfl⟩))
   have hr:Hid (tk b=if((q:Int) !=(sumOf v:Int))=true then none else some (v,k1+4)):=by
    show _=_
    rw[htk]
    by_cases hqs:q=sumOf v
    ·subst hqs;simp
    ·rw[if_neg (by simpa using hqs),if_pos (by simp;omega)]
   have HS:=fun w0 a n c (ht:Tk g k w0) (h:RowO g w0 a n c v)=>Lib.hid (sum_one ht (by omega) h (c:=c) rfl)
   clear htk h4 hq
   generalize sumOf v=sv at*
   rcases hqv:((q:Int) !=(sv:Int))
   all_goals
    go_enter Tryz.func83,Tryz.ntmps83
    go_wp2_with fail
    generalize w.alloc (.cells #[.pointer (some ⟨g,0,none⟩)] 104)=w1 at*
    refine(HV w1 (HR.out.keep K1.out).row).out.mono ?_
    rintro e w2 ⟨X,j,d,rfl,hX,hb2⟩
    have K2:=Lib.hid (K1.out.trans (keep_of_below hb2))
    have T2:=Lib.hid (T1.out.below hb2)
    have O2:=Lib.hid (hX.mono (base':=w.heap.size) (by have:=s1.out;omega))
    have h2:=(hb2.block _ s1.out).trans hh.out
    have s2:=Lib.hid (Nat.lt_of_lt_of_le s1.out hb2.size)
    have hh2:=Lib.hid h2
    clear hX hb2 K1 T1 HV s1 hh h2
    go_wp2_with fail
    refine(HF w2 ((HR.out.keep K2.out).tail hk1).row).out.mono ?_
    rintro e w3 ⟨rfl,hb3⟩
    have K3:=Lib.hid (K2.out.trans (keep_of_below hb3))
    have T3:=Lib.hid (T2.out.below hb3)
    have O3:=Lib.hid (O2.out.below hb3)
    have c0:w3.cell? ⟨w.heap.size,0,none⟩=some (.pointer (some ⟨g,0,none⟩)):=cell_of_row _ _ _ _ _ _ ((hb3.block _ s2.out).trans hh2.out)
    have hjv:=O3.out.len
    have R3:=Lib.hid (RowO.of_own O3.out (by omega) hg)
    clear hb3 K2 T2 HF O2 hh2 s2 hjv
    go_wp2_with fail
    refine(HS w3 X j d T3.out R3.out).out.mono ?_
    rintro e w4 ⟨rfl,hK4,hT4⟩
    have O4:=Lib.hid (Owns.keepG O3.out hg hK4)
    have K4:=Lib.hid (K3.out.trans hK4)
    have T4:=Lib.hid hT4
    clear hK4 hT4 K3 T3 O3 c0 R3 HS
    go_wp2_with fail
    go_ret3
   ·exact⟨⟨by rw[hr.out,if_neg (by rw[hqv];simp)];exact⟨X,j,d,by rw[Int.natCast_add];rfl,O4.out⟩,K4.out⟩,T4.out⟩
   ·exact⟨⟨by rw[hr.out,if_pos hqv];rfl,K4.out⟩,T4.out⟩
 ·have hr:Hid (tk b=none):=by show _=_;rw[htk,if_neg he]
  obtain⟨rfl,rfl,h3⟩:=vec1_bad hv he
  clear htk he hv
  rcases h3 with rfl|rfl|rfl
  all_goals
   go_enter Tryz.func83,Tryz.ntmps83
   go_wp2_with fail
   generalize w.alloc (.cells #[.pointer (some ⟨g,0,none⟩)] 104)=w1 at*
   refine(HV w1 (HR.out.keep K1.out).row).out.mono ?_
   rintro e w2 ⟨X,j,d,rfl,hX,hb2⟩
   have K2:=Lib.hid (K1.out.trans (keep_of_below hb2))
   have T2:=Lib.hid (T1.out.below hb2)
   clear hX hb2 K1 T1 HV
   go_wp2_with fail
   go_ret3
   exact⟨⟨by rw[hr.out];rfl,K2.out⟩,T2.out.mono (by omega)⟩
def TookH (w:World) (o:Option Hdr) (en:Ending) (w':World):Prop:=
 (match o with
  |none=>en= .returned (.tuple #[.agg #[.int .i64 0,.int .i64 0,.int .i64 0],.bool false])
  |some h=>en= .returned (.tuple #[hdV h,.bool true]))∧Below w.heap.size w w'
theorem results_cell_row_tmp {P:Program} {fn:Func} {p u:Tmp} {ty:TypeId} (h:fn.results= #[.cell p ty,.tmp u]) (tmps:Array Value) (w:World) (g:Nat) (t:TypeId) (cs:Array Value) (fr:Nat × Nat) (d:TypeDesc)
  (hp:tmps.getD p undef= .pointer (some ⟨g,0,none⟩)) (hg:w.heap[g]? =some (.cells cs t fr))
  (hu:P.underlying ty=some d) (hd:(match d with| .struct _| .array _ _=>true|_=>false)=true) (hi:(P.info? ty).map (·.size)=some cs.size):
  (results fn tmps).run P w= .ok (.tuple #[.agg cs,tmps.getD u undef]) w:=by
 rw[results_cell_tmp h]
 have hp':tmps[p]?.getD undef= .pointer (some ⟨g,0,none⟩):=by simpa using hp
 simp[hp',asAddr,run_loadVar_row w g t ty cs fr d hg hu hd hi]
def Cells (w:World) (g:Nat) (t:TypeId) (cs:Array Value):Prop:=w.heap[g]? =some (.cells cs t (0,0))
theorem Cells.below {w w':World} {g:Nat} {t:TypeId} {cs:Array Value} (h:Cells w g t cs) (hb:Below w.heap.size w w'):Cells w' g t cs:=(hb.block _ (Array.getElem?_eq_some_iff.1 h).1).trans h
theorem Cells.lt {w:World} {g:Nat} {t:TypeId} {cs:Array Value} (h:Cells w g t cs):g<w.heap.size:=(Array.getElem?_eq_some_iff.1 h).1
theorem Cells.cell {w:World} {g:Nat} {t:TypeId} {cs:Array Value} (h:Cells w g t cs) (i:Nat):w.cell? ⟨g,i,none⟩=cs[i]? :=cell_of_row _ _ _ _ _ _ h
theorem Cells.frozen {w:World} {g:Nat} {t:TypeId} {cs:Array Value} (h:Cells w g t cs) (i:Nat):w.frozen? ⟨g,i,none⟩=false:=frozen_of h i
theorem Cells.set_ {w:World} {g:Nat} {t:TypeId} {cs:Array Value} (h:Cells w g t cs) (i:Nat) (v:Value):Cells (w.setCell ⟨g,i,none⟩ v) g t (cs.setIfInBounds i v):=heap_set h i v
theorem Cells.set_other {w:World} {g g':Nat} {t:TypeId} {cs:Array Value} (h:Cells w g t cs) (hne:g'≠g) (i:Nat) (v:Value):Cells (w.setCell ⟨g',i,none⟩ v) g t cs:=(Below.heap_setCell _ _ _ _ (Ne.symm hne)).trans h
theorem own_block {α:Type} {f:α→Value} {e:TypeId} {base:Nat} {w:World} {b o n c:Nat} {l:List α} (h:Owns f e base w (.slice (some ⟨b,o,none⟩) n c) n l):base≤b:=by
 rcases h.2 with⟨hs,-⟩|⟨q,cap,cur,hs,hb,-⟩
 ·cases hs
 ·injection hs with h1
  injection h1 with h1
  injection h1 with h1
  omega
theorem cell_set_other (w:World) (p q:Addr) (v:Value) (h:q.block≠p.block):(w.setCell p v).cell? q=w.cell? q:=World.cell?_of_block (Below.heap_setCell _ _ _ _ h)
theorem three_other {w:World} {g b i:Nat} (h:b≠g) (v0 v1 v2:Value):(((w.setCell ⟨g,0,none⟩ v0).setCell ⟨g,1,none⟩ v1).setCell ⟨g,2,none⟩ v2).cell? ⟨b,i,none⟩=w.cell? ⟨b,i,none⟩:=by
 rw[cell_set_other _ _ _ _ h,cell_set_other _ _ _ _ h,cell_set_other _ _ _ _ h]
theorem takeHead_any {A:Option Addr} {n c:Nat} {x:List B8} {w:World} (h:Row cb w A n c x) (hn:n≤1000000):
  Calls Tryz.prog 84 #[.slice A n c] w (TookH w (takeHead x)):=by
 have HR:=Lib.hid h
 rcases hi:ints 4 x with⟨l,k1,e1⟩
 have HI:=fun w (h:Row cb w A n c x)=>Lib.hid (takeNums_at h (Nat.le_trans hn (by omega)) 4 (by omega) hi)
 have L1:=Lib.hid ((Below.refl w.heap.size w).alloc (Nat.le_refl _) (.cells #[.int .i64 0,.int .i64 0,.int .i64 0] 68))
 have C1:Hid (Cells (w.alloc (.cells #[.int .i64 0,.int .i64 0,.int .i64 0] 68)) w.heap.size 68 #[.int .i64 0,.int .i64 0,.int .i64 0]):=heap_alloc_new w _
 have hth:takeHead x=if e1=0∧k1=x.length∧l.getD 0 0=0 then some ⟨(l.getD 1 0:Nat),(l.getD 2 0:Nat),(l.getD 3 0:Nat)⟩ else none:=by unfold takeHead;rw[hi]
 have hlen:=h.len
 rw[hlen] at hth
 clear h
 by_cases he:e1=0
 ·subst he
  obtain⟨a1,a2,a3,a4⟩:=ints_one _ _ _ _ hi
  match l,a1 with
  | [p0,p1,p2,p3],_=>
    simp only[List.getD_cons_zero,List.getD_cons_succ,true_and] at hth
    have hr:=Lib.hid hth
    clear hth hi a1 a2 a3 a4 hlen
    generalize takeHead x=th at*
    go_enter Tryz.func84,Tryz.ntmps84
    go_wp2_with fail
    generalize w.alloc (.cells #[.int .i64 0,.int .i64 0,.int .i64 0] 68)=w1 at*
    refine(HI w1 (HR.out.below L1.out)).out.mono ?_
    rintro e w2 ⟨X,j,d,rfl,hX,hb2⟩
    have L2:=Lib.hid (L1.out.trans (hb2.mono L1.out.size))
    have C2:=Lib.hid (C1.out.below hb2)
    have hj:j=4:=by have:=hX.len;simp[asInts] at this;exact this.symm
    subst hj
    obtain⟨X',d',e5,hrow⟩:=hX.row (by omega)
    obtain⟨rfl,-,rfl⟩:X=X'∧4=4∧d=d':=by simpa using e5
    obtain⟨b,o,rfl,hbl,hc⟩:=hrow.at_ (by omega)
    have hbn:b≠w.heap.size:=by have:=own_block hX;have:=C1.out.lt;omega
    have r0:w2.cell? ⟨b,o,none⟩=some (.int .i64 (p0:Int)):=hc 0 p0 rfl
    have r1:w2.cell? ⟨b,o+1,none⟩=some (.int .i64 (p1:Int)):=hc 1 p1 rfl
    have r2:w2.cell? ⟨b,o+2,none⟩=some (.int .i64 (p2:Int)):=hc 2 p2 rfl
    have r3:w2.cell? ⟨b,o+3,none⟩=some (.int .i64 (p3:Int)):=hc 3 p3 rfl
    have c0:=C2.out.cell 0
    have c1:=C2.out.cell 1
    have c2:=C2.out.cell 2
    have f0:=C2.out.frozen 0
    have f1:=C2.out.frozen 1
    have f2:=C2.out.frozen 2
    simp at c0 c1 c2
    clear hc hrow hX hb2 C1 L1 e5 HI hbl
    by_cases hcond:k1=n∧p0=0
    ·obtain⟨rfl,rfl⟩:=hcond
     go_wp2_with fail
     refine wp_region_held_drew (S:=fun W=>W.cell? ⟨b,o+1,none⟩=some (.int .i64 (p1:Int))∧W.cell? ⟨b,o+2,none⟩=some (.int .i64 (p2:Int))∧W.cell? ⟨b,o+3,none⟩=some (.int .i64 (p3:Int)))
      (by kernel_rfl) ⟨r1,r2,r3⟩ (fun hHeld=> ?_)
     refine Reg.tk 0 rfl ?_
     refine Reg.tk 1 rfl ?_
     refine Reg.tk 2 rfl ?_
     refine Reg.tk 3 rfl ?_
     refine Reg.tk 4 rfl ?_
     refine Reg.tk 5 rfl ?_
     refine Reg.tk 6 rfl ?_
     refine Reg.tk 7 rfl ?_
     refine Reg.tk 8 rfl ?_
     refine Reg.tk 9 rfl ?_
     refine Reg.step 10 rfl (by kernel_rfl) (by rfl) (fun K hK=> ?_)
     go_simp
     refine hK.out _ _ ⟨?_,?_,?_⟩ (fun hHeld3=> ?_)
     ·simp only[World.cell?_drew];rw[three_other hbn];exact r1
     ·simp only[World.cell?_drew];rw[three_other hbn];exact r2
     ·simp only[World.cell?_drew];rw[three_other hbn];exact r3
     clear hK K hHeld
     (try simp only[Act.put,List.setIfInBounds_toArray,List.set_cons_zero,List.set_cons_succ])
     refine Reg.tk 11 rfl ?_
     refine wpAnyH_done (by kernel_rfl) ?_ _
     have H3:=fun v0 v1 v2=>((C2.out.set_ 0 v0).set_ 1 v1).set_ 2 v2
     have L3:=fun v0 v1 v2=>((L2.out.setCell (p:=⟨w.heap.size,0,none⟩) (Nat.le_refl _) v0).setCell (p:=⟨w.heap.size,1,none⟩) (Nat.le_refl _) v1).setCell (p:=⟨w.heap.size,2,none⟩) (Nat.le_refl _) v2
     go_wp2_with fail
     (try simp only[Exit.inBlock,Exit.then])
     refine bodyPost_ret_by (results_cell_row_tmp rfl _ _ w.heap.size _ _ _ _ rfl (H3 _ _ _) Tryz.underlying68 rfl (by kernel_rfl)) rfl ?_
     exact⟨by rw[hr.out];rfl,(L3 _ _ _).drew⟩
    ·have hq:Hid (th=none):=by show _=_;rw[hr.out,if_neg hcond]
     have hcond2:Hid (¬(k1=n∧p0=0)):=hcond
     have H3:=fun v0 v1 v2=>((C2.out.set_ 0 v0).set_ 1 v1).set_ 2 v2
     have L3:=fun v0 v1 v2=>((L2.out.setCell (p:=⟨w.heap.size,0,none⟩) (Nat.le_refl _) v0).setCell (p:=⟨w.heap.size,1,none⟩) (Nat.le_refl _) v1).setCell (p:=⟨w.heap.size,2,none⟩) (Nat.le_refl _) v2
     clear hcond
     by_cases hk:k1=n
     ·have hkb:((k1:Int) !=(n:Int))=false:=by rw[hk];simp
      have hpb:((p0:Int) !=0)=true:=by
       have:p0≠0:=fun e=>hcond2.out ⟨hk,e⟩
       simp;omega
      clear hk
      go_wp2_with fail
      (try simp only[Exit.inBlock,Exit.then])
      refine bodyPost_ret_by (results_cell_row_tmp rfl _ _ w.heap.size _ _ _ _ rfl (H3 _ _ _) Tryz.underlying68 rfl (by kernel_rfl)) rfl ?_
      exact⟨by rw[hq.out];rfl,L3 _ _ _⟩
     ·have hkb:((k1:Int) !=(n:Int))=true:=by simp;omega
      clear hk
      go_wp2_with fail
      (try simp only[Exit.inBlock,Exit.then])
      refine bodyPost_ret_by (results_cell_row_tmp rfl _ _ w.heap.size _ _ _ _ rfl (H3 _ _ _) Tryz.underlying68 rfl (by kernel_rfl)) rfl ?_
      exact⟨by rw[hq.out];rfl,L3 _ _ _⟩
 ·have hr:Hid (takeHead x=none):=by show _=_;rw[hth,if_neg (fun h=>he h.1)]
  obtain⟨rfl,rfl,h3⟩:=ints_bad _ _ _ _ _ hi he
  clear hth he hi hlen
  generalize takeHead x=th at*
  rcases h3 with rfl|rfl
  all_goals
   go_enter Tryz.func84,Tryz.ntmps84
   go_wp2_with fail
   generalize w.alloc (.cells #[.int .i64 0,.int .i64 0,.int .i64 0] 68)=w1 at*
   refine(HI w1 (HR.out.below L1.out)).out.mono ?_
   rintro e w2 ⟨X,j,d,rfl,hX,hb2⟩
   have L2:=Lib.hid (L1.out.trans (hb2.mono L1.out.size))
   have C2:=Lib.hid (C1.out.below hb2)
   have c0:=C2.out.cell 0
   have c1:=C2.out.cell 1
   have c2:=C2.out.cell 2
   have f0:=C2.out.frozen 0
   have f1:=C2.out.frozen 1
   have f2:=C2.out.frozen 2
   simp at c0 c1 c2
   clear hX hb2 C1 L1 HI
   have H3:=fun v0 v1 v2=>((C2.out.set_ 0 v0).set_ 1 v1).set_ 2 v2
   have L3:=fun v0 v1 v2=>((L2.out.setCell (p:=⟨w.heap.size,0,none⟩) (Nat.le_refl _) v0).setCell (p:=⟨w.heap.size,1,none⟩) (Nat.le_refl _) v1).setCell (p:=⟨w.heap.size,2,none⟩) (Nat.le_refl _) v2
   go_wp2_with fail
   (try simp only[Exit.inBlock,Exit.then])
   refine bodyPost_ret_by (results_cell_row_tmp rfl _ _ w.heap.size _ _ _ _ rfl (H3 _ _ _) Tryz.underlying68 rfl (by kernel_rfl)) rfl ?_
   exact⟨by rw[hr.out];rfl,L3 _ _ _⟩
end Seg
end
section
open Go.RowKit Mem
namespace Seg
open Wire
def zeroRec:Value:= .agg #[.int .i64 0,.int .i64 0,.int .i64 0,.int .i64 0,.int .i64 0,.int .i64 0,.slice none 0 0]
def TookR (w:World) (o:Option Rc) (en:Ending) (w':World):Prop:=
 (match o with
  |none=>en= .returned (.tuple #[zeroRec,.bool false])
  |some r=>∃D n c,en= .returned (.tuple #[recV r D n c,.bool true])∧Owns cb 5 w.heap.size w' (.slice D n c) n r.data)∧Below w.heap.size w w'
theorem Owns.setCell {α:Type} {f:α→Value} {e:TypeId} {base:Nat} {w:World} {s:Value} {n:Nat} {l:List α} (h:Owns f e base w s n l) {p:Addr} (hp:p.block<base) (v:Value):Owns f e base (w.setCell p v) s n l:=by
 refine⟨h.1,?_⟩
 rcases h.2 with hn|⟨q,cap,cur,e',hbg,hq,r⟩
 ·exact .inl hn
 ·exact .inr ⟨q,cap,cur,e',hbg,(Below.heap_setCell _ _ _ _ (by omega)).trans hq,r⟩
theorem Cells.set7 {w:World} {g:Nat} {t:TypeId} {a0 a1 a2 a3 a4 a5 a6:Value} (h:Cells w g t #[a0,a1,a2,a3,a4,a5,a6]) (v0 v1 v2 v3 v4 v5 v6:Value):Cells (((((((w.setCell ⟨g,0,none⟩ v0).setCell ⟨g,1,none⟩ v1).setCell ⟨g,2,none⟩ v2).setCell ⟨g,3,none⟩ v3).setCell ⟨g,4,none⟩ v4).setCell ⟨g,5,none⟩ v5).setCell ⟨g,6,none⟩ v6) g t #[v0,v1,v2,v3,v4,v5,v6]:=by
 have:=((((((h.set_ 0 v0).set_ 1 v1).set_ 2 v2).set_ 3 v3).set_ 4 v4).set_ 5 v5).set_ 6 v6
 simp only[List.setIfInBounds_toArray,List.set_cons_zero,List.set_cons_succ] at this
 exact this
theorem below7 {w0 w:World} {g:Nat} (h:Below g w0 w) (v0 v1 v2 v3 v4 v5 v6:Value):Below g w0 (((((((w.setCell ⟨g,0,none⟩ v0).setCell ⟨g,1,none⟩ v1).setCell ⟨g,2,none⟩ v2).setCell ⟨g,3,none⟩ v3).setCell ⟨g,4,none⟩ v4).setCell ⟨g,5,none⟩ v5).setCell ⟨g,6,none⟩ v6):=
 ((((((h.setCell (p:=⟨g,0,none⟩) (Nat.le_refl _) v0).setCell (p:=⟨g,1,none⟩) (Nat.le_refl _) v1).setCell (p:=⟨g,2,none⟩) (Nat.le_refl _) v2).setCell (p:=⟨g,3,none⟩) (Nat.le_refl _) v3).setCell (p:=⟨g,4,none⟩) (Nat.le_refl _) v4).setCell (p:=⟨g,5,none⟩) (Nat.le_refl _) v5).setCell (p:=⟨g,6,none⟩) (Nat.le_refl _) v6
theorem owns7 {α:Type} {f:α→Value} {e:TypeId} {base:Nat} {w:World} {s:Value} {n:Nat} {l:List α} {g:Nat} (h:Owns f e base w s n l) (hp:g<base) (v0 v1 v2 v3 v4 v5 v6:Value):Owns f e base (((((((w.setCell ⟨g,0,none⟩ v0).setCell ⟨g,1,none⟩ v1).setCell ⟨g,2,none⟩ v2).setCell ⟨g,3,none⟩ v3).setCell ⟨g,4,none⟩ v4).setCell ⟨g,5,none⟩ v5).setCell ⟨g,6,none⟩ v6) s n l:=
 Owns.setCell (Owns.setCell (Owns.setCell (Owns.setCell (Owns.setCell (Owns.setCell (Owns.setCell h hp v0) hp v1) hp v2) hp v3) hp v4) hp v5) hp v6
theorem Cells.seven {w:World} {g:Nat} {t:TypeId} {a0 a1 a2 a3 a4 a5 a6:Value} (h:Cells w g t #[a0,a1,a2,a3,a4,a5,a6]):
  (w.cell? ⟨g,0,none⟩=some a0∧w.cell? ⟨g,1,none⟩=some a1∧w.cell? ⟨g,2,none⟩=some a2∧w.cell? ⟨g,3,none⟩=some a3∧w.cell? ⟨g,4,none⟩=some a4∧w.cell? ⟨g,5,none⟩=some a5∧w.cell? ⟨g,6,none⟩=some a6)∧
  (w.frozen? ⟨g,0,none⟩=false∧w.frozen? ⟨g,1,none⟩=false∧w.frozen? ⟨g,2,none⟩=false∧w.frozen? ⟨g,3,none⟩=false∧w.frozen? ⟨g,4,none⟩=false∧w.frozen? ⟨g,5,none⟩=false∧w.frozen? ⟨g,6,none⟩=false):=
 ⟨⟨h.cell 0,h.cell 1,h.cell 2,h.cell 3,h.cell 4,h.cell 5,h.cell 6⟩,h.frozen 0,h.frozen 1,h.frozen 2,h.frozen 3,h.frozen 4,h.frozen 5,h.frozen 6⟩
theorem takeRec_nums {A:Option Addr} {n c:Nat} {x:List B8} {w:World} (h:Row cb w A n c x) (hn:n≤1000000) {l:List Nat} {k1 e1:Nat} (hi:ints 6 x=(l,k1,e1)) (he:e1≠0):
  Calls Tryz.prog 85 #[.slice A n c] w (TookR w none):=by
 have HR:=Lib.hid h
 have HI:=fun w (h:Row cb w A n c x)=>Lib.hid (takeNums_at h (Nat.le_trans hn (by omega)) 6 (by omega) hi)
 have L1:=Lib.hid ((Below.refl w.heap.size w).alloc (Nat.le_refl _) (.cells #[.int .i64 0,.int .i64 0,.int .i64 0,.int .i64 0,.int .i64 0,.int .i64 0,.slice none 0 0] 49))
 have C1:Hid (Cells (w.alloc (.cells #[.int .i64 0,.int .i64 0,.int .i64 0,.int .i64 0,.int .i64 0,.int .i64 0,.slice none 0 0] 49)) w.heap.size 49 #[.int .i64 0,.int .i64 0,.int .i64 0,.int .i64 0,.int .i64 0,.int .i64 0,.slice none 0 0]):=heap_alloc_new w _
 obtain⟨rfl,rfl,h3⟩:=ints_bad _ _ _ _ _ hi he
 clear h he hi
 rcases h3 with rfl|rfl
 all_goals
  go_enter Tryz.func85,Tryz.ntmps85
  go_wp2_with fail
  generalize w.alloc (.cells #[.int .i64 0,.int .i64 0,.int .i64 0,.int .i64 0,.int .i64 0,.int .i64 0,.slice none 0 0] 49)=w1 at*
  refine(HI w1 (HR.out.below L1.out)).out.mono ?_
  rintro e w2 ⟨X,j,d,rfl,hX,hb2⟩
  have L2:=Lib.hid (L1.out.trans (hb2.mono L1.out.size))
  have C2:=Lib.hid (C1.out.below hb2)
  obtain⟨⟨c0,c1,c2,c3,c4,c5,c6⟩,f0,f1,f2,f3,f4,f5,f6⟩:=C2.out.seven
  clear hX hb2 C1 L1 HI
  go_wp2_with fail
  (try simp only[Exit.inBlock,Exit.then])
  refine bodyPost_ret_by (results_cell_row_tmp rfl _ _ w.heap.size _ _ _ _ rfl (C2.out.set7 _ _ _ _ _ _ _) Tryz.underlying49 rfl (by kernel_rfl)) rfl ?_
  exact⟨rfl,below7 L2.out _ _ _ _ _ _ _⟩
theorem takeRec_vec {A:Option Addr} {n c:Nat} {x:List B8} {w:World} (h:Row cb w A n c x) (hn:n≤1000000) {l:List Nat} {k1:Nat} (hi:ints 6 x=(l,k1,0)) {v:List B8} {k2 e2:Nat} (hv:vec1 (x.drop k1)=(v,k2,e2)) (he:¬(e2=0∧k1+k2=n)):
  Calls Tryz.prog 85 #[.slice A n c] w (TookR w none):=by
 have HR:=Lib.hid h
 have hlen:=h.len
 have hcap:=h.cap
 obtain⟨a1,a2,a3,a4⟩:=ints_one _ _ _ _ hi
 have hk1:k1≤n:=by omega
 have hsl:=run_tail A n c k1 hk1
 have HI:=fun w (h:Row cb w A n c x)=>Lib.hid (takeNums_at h (Nat.le_trans hn (by omega)) 6 (by omega) hi)
 have HV:=fun w (h:Row cb w (tailA A c k1) (n-k1) (c-k1) (x.drop k1))=>Lib.hid (takeVec_at h (by omega) hv)
 have L1:=Lib.hid ((Below.refl w.heap.size w).alloc (Nat.le_refl _) (.cells #[.int .i64 0,.int .i64 0,.int .i64 0,.int .i64 0,.int .i64 0,.int .i64 0,.slice none 0 0] 49))
 have C1:Hid (Cells (w.alloc (.cells #[.int .i64 0,.int .i64 0,.int .i64 0,.int .i64 0,.int .i64 0,.int .i64 0,.slice none 0 0] 49)) w.heap.size 49 #[.int .i64 0,.int .i64 0,.int .i64 0,.int .i64 0,.int .i64 0,.int .i64 0,.slice none 0 0]):=heap_alloc_new w _
 have hcase:(e2=0∧(((k1:Int)+(k2:Int)) !=(n:Int))=true∧k2≤n)∨(k2=0∧(e2=2∨e2=20∨e2=21)):=by
  by_cases h0:e2=0
  ·subst h0
   obtain⟨v1,v2,v3,v4⟩:=vec1_one hv
   rw[List.length_drop] at v2
   refine .inl ⟨rfl,?_,by omega⟩
   have:¬(k1+k2=n):=fun h=>he ⟨rfl,h⟩
   simp;omega
  ·obtain⟨-,h2,h3⟩:=vec1_bad hv h0
   exact .inr ⟨h2,h3⟩
 clear h he hi hv a1 a2 a3 a4 hlen
 rcases hcase with⟨rfl,hk,hk2⟩|⟨rfl,rfl|rfl|rfl⟩
 all_goals
  go_enter Tryz.func85,Tryz.ntmps85
  go_wp2_with fail
  generalize w.alloc (.cells #[.int .i64 0,.int .i64 0,.int .i64 0,.int .i64 0,.int .i64 0,.int .i64 0,.slice none 0 0] 49)=w1 at*
  refine(HI w1 (HR.out.below L1.out)).out.mono ?_
  rintro e w2 ⟨X,j,d,rfl,hX,hb2⟩
  have L2:=Lib.hid (L1.out.trans (hb2.mono L1.out.size))
  have C2:=Lib.hid (C1.out.below hb2)
  clear hX hb2 C1 L1 HI
  go_wp2_with fail
  refine(HV w2 ((HR.out.below L2.out).tail hk1)).out.mono ?_
  rintro e w3 ⟨Y,j3,d3,rfl,hY,hb3⟩
  have L3:=Lib.hid (L2.out.trans (hb3.mono L2.out.size))
  have C3:=Lib.hid (C2.out.below hb3)
  obtain⟨⟨c0,c1,c2,c3,c4,c5,c6⟩,f0,f1,f2,f3,f4,f5,f6⟩:=Cells.seven C3.out
  clear hY hb3 C2 L2 HV
  go_wp2_with fail
  (try simp only[Exit.inBlock,Exit.then])
  refine bodyPost_ret_by (results_cell_row_tmp rfl _ _ w.heap.size _ _ _ _ rfl (Cells.set7 C3.out _ _ _ _ _ _ _) Tryz.underlying49 rfl (by kernel_rfl)) rfl ?_
  exact⟨rfl,below7 L3.out _ _ _ _ _ _ _⟩
theorem takeRec_read {A:Option Addr} {n c:Nat} {x:List B8} {w:World} (h:Row cb w A n c x) (hn:n≤1000000) {p0 p1 p2 p3 p4 p5:Nat} {k1:Nat} (hi:ints 6 x=([p0,p1,p2,p3,p4,p5],k1,0)) {v:List B8} {k2:Nat} (hv:vec1 (x.drop k1)=(v,k2,0)) (he:k1+k2=n):
  Calls Tryz.prog 85 #[.slice A n c] w (TookR w (if check ⟨p0,p1,p2,p3,p4,p5,v⟩=0 then some ⟨p0,p1,p2,p3,p4,p5,v⟩ else none)):=by
 have HR:=Lib.hid h
 have hlen:=h.len
 have hcap:=h.cap
 obtain⟨a1,a2,a3,a4⟩:=ints_one _ _ _ _ hi
 obtain⟨v1,v2,v3,v4⟩:=vec1_one hv
 have hk1:k1≤n:=by omega
 have hkn:(((k1:Int)+(k2:Int)) !=(n:Int))=false:=by simp;omega
 have hk2:k2≤n:=by omega
 have hsl:=run_tail A n c k1 hk1
 have HI:=fun w (h:Row cb w A n c x)=>Lib.hid (takeNums_at h (Nat.le_trans hn (by omega)) 6 (by omega) hi)
 have HV:=fun w (h:Row cb w (tailA A c k1) (n-k1) (c-k1) (x.drop k1))=>Lib.hid (takeVec_at h (by omega) hv)
 have hfit:fits (nums ⟨p0,p1,p2,p3,p4,p5,v⟩):=by
  intro z hz
  have b0:=a4 p0 (by simp)
  have b1:=a4 p1 (by simp)
  have b2:=a4 p2 (by simp)
  have b3:=a4 p3 (by simp)
  have b4:=a4 p4 (by simp)
  have b5:=a4 p5 (by simp)
  simp[nums] at hz
  omega
 have HC:=fun(e:Nat) (hc:check ⟨p0,p1,p2,p3,p4,p5,v⟩=e) D m d (hm:v.length=m) w=>Lib.hid (check_at hc hfit D m d hm (by omega) w)
 have hce:=Lib.hid (check_le ⟨p0,p1,p2,p3,p4,p5,v⟩)
 have L1:=Lib.hid ((Below.refl w.heap.size w).alloc (Nat.le_refl _) (.cells #[.int .i64 0,.int .i64 0,.int .i64 0,.int .i64 0,.int .i64 0,.int .i64 0,.slice none 0 0] 49))
 have C1:Hid (Cells (w.alloc (.cells #[.int .i64 0,.int .i64 0,.int .i64 0,.int .i64 0,.int .i64 0,.int .i64 0,.slice none 0 0] 49)) w.heap.size 49 #[.int .i64 0,.int .i64 0,.int .i64 0,.int .i64 0,.int .i64 0,.int .i64 0,.slice none 0 0]):=heap_alloc_new w _
 clear h he hi hv a1 a2 a3 a4 hlen v1 v2 v4 hfit
 unfold recV at HC
 simp only at HC
 generalize ho:(if check ⟨(p0:Int),p1,p2,p3,p4,p5,v⟩=0 then some (⟨p0,p1,p2,p3,p4,p5,v⟩:Rc) else none)=res
 have HO:=Lib.hid ho
 clear ho
 go_enter Tryz.func85,Tryz.ntmps85
 go_wp2_with fail
 generalize w.alloc (.cells #[.int .i64 0,.int .i64 0,.int .i64 0,.int .i64 0,.int .i64 0,.int .i64 0,.slice none 0 0] 49)=w1 at*
 refine(HI w1 (HR.out.below L1.out)).out.mono ?_
 rintro e w2 ⟨X,j,d,rfl,hX,hb2⟩
 have L2:=Lib.hid (L1.out.trans (hb2.mono L1.out.size))
 have C2:=Lib.hid (C1.out.below hb2)
 have S1:Hid (w.heap.size<w1.heap.size):=Cells.lt C1.out
 have OX:=Lib.hid hX
 clear hX C1 L1 HI
 go_wp2_with fail
 refine(HV w2 ((HR.out.below L2.out).tail hk1)).out.mono ?_
 rintro e w3 ⟨Y,j3,d3,rfl,hY,hb3⟩
 have L3:=Lib.hid (L2.out.trans (hb3.mono L2.out.size))
 have C3:=Lib.hid (C2.out.below hb3)
 have OX3:=OX.out.below hb3
 have OY:=Lib.hid (hY.mono (base':=w.heap.size+1) (by have:=S1.out;have:=hb2.size;omega))
 have hj:j=6:=by have:=OX3.len;simp[asInts] at this;exact this.symm
 subst hj
 obtain⟨X',d',e5,hrow⟩:=OX3.row (by omega)
 obtain⟨rfl,-,rfl⟩:X=X'∧6=6∧d=d':=by simpa using e5
 obtain⟨b,o,rfl,hbl,hc⟩:=hrow.at_ (by omega)
 have hbn:w.heap.size<b:=by have:=own_block OX3;have:=S1.out;omega
 have r0:w3.cell? ⟨b,o,none⟩=some (.int .i64 (p0:Int)):=hc 0 p0 rfl
 have r1:w3.cell? ⟨b,o+1,none⟩=some (.int .i64 (p1:Int)):=hc 1 p1 rfl
 have r2:w3.cell? ⟨b,o+2,none⟩=some (.int .i64 (p2:Int)):=hc 2 p2 rfl
 have r3:w3.cell? ⟨b,o+3,none⟩=some (.int .i64 (p3:Int)):=hc 3 p3 rfl
 have r4:w3.cell? ⟨b,o+4,none⟩=some (.int .i64 (p4:Int)):=hc 4 p4 rfl
 have r5:w3.cell? ⟨b,o+5,none⟩=some (.int .i64 (p5:Int)):=hc 5 p5 rfl
 have hS:Hid (∀W:World,W.heap[b]? =w3.heap[b]? →W.cell? ⟨b,o,none⟩=some (.int .i64 (p0:Int))∧W.cell? ⟨b,o+1,none⟩=some (.int .i64 (p1:Int))∧W.cell? ⟨b,o+2,none⟩=some (.int .i64 (p2:Int))∧W.cell? ⟨b,o+3,none⟩=some (.int .i64 (p3:Int))∧W.cell? ⟨b,o+4,none⟩=some (.int .i64 (p4:Int))∧W.cell? ⟨b,o+5,none⟩=some (.int .i64 (p5:Int))):=
  fun W hW=>⟨(World.cell?_of_block hW).trans r0,(World.cell?_of_block hW).trans r1,(World.cell?_of_block hW).trans r2,(World.cell?_of_block hW).trans r3,(World.cell?_of_block hW).trans r4,(World.cell?_of_block hW).trans r5⟩
 clear hY hb3 hb2 C2 L2 HV OX OX3 e5 hrow hc S1
 go_wp2_with fail
 refine wp_region_held_drew (S:=fun W=>W.cell? ⟨b,o,none⟩=some (.int .i64 (p0:Int))∧W.cell? ⟨b,o+1,none⟩=some (.int .i64 (p1:Int))∧W.cell? ⟨b,o+2,none⟩=some (.int .i64 (p2:Int))∧W.cell? ⟨b,o+3,none⟩=some (.int .i64 (p3:Int))∧W.cell? ⟨b,o+4,none⟩=some (.int .i64 (p4:Int))∧W.cell? ⟨b,o+5,none⟩=some (.int .i64 (p5:Int)))
  (by kernel_rfl) ⟨r0,r1,r2,r3,r4,r5⟩ (fun hHeld=> ?_)
 refine Reg.tk 0 rfl ?_
 refine Reg.tk 1 rfl ?_
 refine Reg.tk 2 rfl ?_
 refine Reg.tk 3 rfl ?_
 refine Reg.tk 4 rfl ?_
 refine Reg.tk 5 rfl ?_
 refine Reg.tk 6 rfl ?_
 refine Reg.tk 7 rfl ?_
 refine Reg.tk 8 rfl ?_
 refine Reg.tk 9 rfl ?_
 refine Reg.tk 10 rfl ?_
 refine Reg.tk 11 rfl ?_
 refine Reg.tk 12 rfl ?_
 refine Reg.tk 13 rfl ?_
 refine Reg.tk 14 rfl ?_
 refine Reg.tk 15 rfl ?_
 refine Reg.tk 16 rfl ?_
 refine Reg.tk 17 rfl ?_
 refine Reg.tk 18 rfl ?_
 refine Reg.tk 19 rfl ?_
 refine Reg.step 20 rfl (by kernel_rfl) (by rfl) (fun K hK=> ?_)
 go_simp
 refine hK.out _ _ (hS.out _ (Below.heap_alloc w3 _ b hbl)) (fun hHeld3=> ?_)
 clear hK K hHeld
 (try simp only[Act.put,List.setIfInBounds_toArray,List.set_cons_zero,List.set_cons_succ])
 refine Reg.step 21 rfl (by kernel_rfl) (by rfl) (fun K hK=> ?_)
 go_simp
 refine hK.out _ _ (hS.out _ (Below.heap_alloc w3 _ b hbl)) (fun hHeld4=> ?_)
 clear hK K hHeld3
 refine wpAnyH_done (by kernel_rfl) ?_ _
 clear hHeld4 hS r0 r1 r2 r3 r4 r5 hbl hbn hsl
 have hjv:v.length=j3:=OY.out.len
 have L4:=Lib.hid ((L3.out.alloc L3.out.size (.cells #[.int .i64 p0,.int .i64 p1,.int .i64 p2,.int .i64 p3,.int .i64 p4,.int .i64 p5,.slice Y j3 d3] 49)).drew)
 have C4:Hid (Cells (w3.alloc (.cells #[.int .i64 p0,.int .i64 p1,.int .i64 p2,.int .i64 p3,.int .i64 p4,.int .i64 p5,.slice Y j3 d3] 49)).drew w.heap.size 49 #[.int .i64 0,.int .i64 0,.int .i64 0,.int .i64 0,.int .i64 0,.int .i64 0,.slice none 0 0]):=Cells.below C3.out ((Below.refl _ w3).alloc (Nat.le_refl _) _).drew
 have O4:Hid (Owns cb 5 (w.heap.size+1) (w3.alloc (.cells #[.int .i64 p0,.int .i64 p1,.int .i64 p2,.int .i64 p3,.int .i64 p4,.int .i64 p5,.slice Y j3 d3] 49)).drew (.slice Y j3 d3) j3 v):=(OY.out.alloc _).drew
 have B4:Hid (Box (w3.alloc (.cells #[.int .i64 p0,.int .i64 p1,.int .i64 p2,.int .i64 p3,.int .i64 p4,.int .i64 p5,.slice Y j3 d3] 49)).drew w3.heap.size ⟨p0,p1,p2,p3,p4,p5,v⟩ Y j3 d3):=heap_alloc_new w3 _
 generalize(w3.alloc (.cells #[.int .i64 p0,.int .i64 p1,.int .i64 p2,.int .i64 p3,.int .i64 p4,.int .i64 p5,.slice Y j3 d3] 49)).drew=w4 at*
 have b4:=B4.out.cells
 simp only at b4
 obtain⟨b0,b1,b2,b3,b4,b5,b6⟩:=b4
 clear L3 C3 OY
 rcases hce.out with hc|hc|hc
 ·have hres:Hid (res=some ⟨p0,p1,p2,p3,p4,p5,v⟩):=by show _=_;rw[←HO.out,if_pos hc]
  have HC0:=fun w=>HC 0 hc Y j3 d3 hjv w
  clear HC HO hce hc
  go_wp2_with fail
  refine(HC0 w4).out.mono ?_
  rintro e w5 ⟨rfl,hb5⟩
  have L5:=Lib.hid (L4.out.trans (hb5.mono L4.out.size))
  have C5:=Lib.hid (Cells.below C4.out hb5)
  have O5:=Lib.hid (O4.out.below hb5)
  have e5:=(Box.below B4.out hb5).cells
  simp only at e5
  obtain⟨d0,d1,d2,d3',d4,d5,d6⟩:=e5
  obtain⟨⟨c0,c1,c2,c3,c4,c5,c6⟩,f0,f1,f2,f3,f4,f5,f6⟩:=Cells.seven C5.out
  clear hb5 L4 C4 O4 B4 b0 b1 b2 b3 b4 b5 b6 HC0
  go_wp2_with fail
  (try simp only[Exit.inBlock,Exit.then])
  refine bodyPost_ret_by (results_cell_row_tmp rfl _ _ w.heap.size _ _ _ _ rfl (Cells.set7 C5.out _ _ _ _ _ _ _) Tryz.underlying49 rfl (by kernel_rfl)) rfl ?_
  rw[hres.out]
  exact⟨⟨Y,j3,d3,rfl,(owns7 O5.out (Nat.lt_succ_self _) _ _ _ _ _ _ _).mono (Nat.le_succ _)⟩,below7 L5.out _ _ _ _ _ _ _⟩
 all_goals
  have hres:Hid (res=none):=by show _=_;rw[←HO.out,if_neg (by rw[hc];decide)]
  have HC0:=fun w=>HC _ hc Y j3 d3 hjv w
  clear HC HO hce hc
  go_wp2_with fail
  refine(HC0 w4).out.mono ?_
  rintro e w5 ⟨rfl,hb5⟩
  have L5:=Lib.hid (L4.out.trans (hb5.mono L4.out.size))
  have C5:=Lib.hid (Cells.below C4.out hb5)
  obtain⟨⟨c0,c1,c2,c3,c4,c5,c6⟩,f0,f1,f2,f3,f4,f5,f6⟩:=Cells.seven C5.out
  clear hb5 L4 C4 O4 B4 b0 b1 b2 b3 b4 b5 b6 HC0
  go_wp2_with fail
  (try simp only[Exit.inBlock,Exit.then])
  refine bodyPost_ret_by (results_cell_row_tmp rfl _ _ w.heap.size _ _ _ _ rfl (Cells.set7 C5.out _ _ _ _ _ _ _) Tryz.underlying49 rfl (by kernel_rfl)) rfl ?_
  rw[hres.out]
  exact⟨rfl,below7 L5.out _ _ _ _ _ _ _⟩
theorem takeRec_any {A:Option Addr} {n c:Nat} {x:List B8} {w:World} (h:Row cb w A n c x) (hn:n≤1000000):
  Calls Tryz.prog 85 #[.slice A n c] w (TookR w (takeRec x)):=by
 have hlen:=h.len
 unfold takeRec
 rcases hi:ints 6 x with⟨l,k1,e1⟩
 simp only
 by_cases he:e1=0
 ·subst he
  rcases hv:vec1 (x.drop k1) with⟨v,k2,e2⟩
  simp only[if_pos]
  rw[hlen]
  by_cases hc:e2=0∧k1+k2=n
  ·rw[if_pos hc]
   obtain⟨rfl,hk⟩:=hc
   obtain⟨a1,-⟩:=ints_one _ _ _ _ hi
   match l,a1 with
   | [p0,p1,p2,p3,p4,p5],_=>exact takeRec_read h hn hi hv hk
  ·rw[if_neg hc]
   exact takeRec_vec h hn hi hv hc
 ·rw[if_neg he]
  exact takeRec_nums h hn hi he
end Seg
end
section
open Go.RowKit Mem
namespace Seg
open Wire
structure Oth (e:TypeId) (w w':World):Prop where
 size:w.heap.size≤w'.heap.size
 block:∀k,k<w.heap.size→w'.heap[k]? =w.heap[k]? ∨∃cur z,w.heap[k]? =some (.cells cur e z)
theorem Oth.owns {α:Type} {f:α→Value} {e e':TypeId} {base:Nat} {w w':World} {s:Value} {n:Nat} {l:List α} (h:Owns f e' base w s n l) (ho:Oth e w w') (hne:e'≠e):Owns f e' base w' s n l:=by
 refine⟨h.1,?_⟩
 rcases h.2 with hn|⟨q,cap,cur,e1,hbg,hq,r⟩
 ·exact .inl hn
 ·refine .inr ⟨q,cap,cur,e1,hbg,?_,r⟩
  rcases ho.block q (Array.getElem?_eq_some_iff.1 hq).1 with h1|⟨cur',z,h1⟩
  ·exact h1.trans hq
  ·rw[hq] at h1
   injection h1 with h1
   injection h1 with _ h2
   exact absurd h2 hne
theorem wpList_append_wide {P:Program} {t e:TypeId} (ht:P.underlying t=some (.slice e)) {z:Value} {size bytes:Nat} (hinfo:(P.info? e).map (fun i=>(i.zero,i.size,i.bytes))=some (some z,size,bytes)) (hzs:z.cells.size=size) (hsz:0<size)
  {w:World} {ops:Array Oper} {rest:List Oper} {o:Oper} {a:Act} {Q:Exit→Act→World→Prop} (hgd:o.guard=none) (s x:Operand)
  (ho:o.op= .call {callee:= .builtin .append,args:= #[s,x],argTypes:= #[t,t]}) (hty:o.type=t)
  (base:Nat) (sv:Value) (n:Nat) (l:List Value) (hs:a.eval s=sv) (hown:w.ownsRow base e size sv n l) (A:Addr) (m c:Nat) (l':List Value) (hx:a.eval x= .slice (some A) m c) (hl:l'.length=m*size)
  (hc:∀j u,l'[j]? =some u→w.cell? (A.add j)=some u) (h1:∀u∈l',u.oneCell'=true)
  (hbig:n+m≤140737488351232) (hby:(n+m)*bytes≤140737488355328) (hbase:base≤w.heap.size)
  (hk:∀A' c' w',w'.ownsRow base e size (.slice A' (n+m) c') (n+m) (l++l')→Below base w w'→Oth e w w'→wpList P ops Q rest (a.put o.dst (.slice A' (n+m) c')) w'):
  wpList P ops Q (o::rest) a w:=by
 obtain⟨i,hi,hz0,hz1,hz2⟩:=info_parts hinfo
 refine wpList_plain hgd fun K hK=> ?_
 obtain⟨s',w',hrun,h2,h3,-,-⟩:=run_append_own_at (P:=P) w base t t e i _ size bytes ht hi hz0 hz1 hz2 hzs hsz sv n _ hown A m c l' hl hc h1 (by unfold maxLen;omega) hby hbase
 have hsl:∃A' c',s'= .slice A' (n+m) c':=by
  rcases h2.2 with⟨rfl,h0⟩|⟨q,cap,cur,rfl,-⟩
  ·exact⟨none,0,by rw[h0]⟩
  ·exact⟨_,_,rfl⟩
 obtain⟨A',c',rfl⟩:=hsl
 have hb:Below base w w':=(Below.refl base w).grown h3 hbase (fun k hk=>(World.ownsRow.lt hown k hk).1)
 have hoth:Oth e w w':=by
  refine⟨h3.size,fun k hk=> ?_⟩
  by_cases hkk:some k=sv.ownBlock
  ·rcases hown.2 with⟨rfl,-⟩|⟨q,cap,cur,rfl,-,hq,-⟩
   ·cases hkk
   ·have:k=q:=by simpa [Value.ownBlock] using hkk
    subst this
    exact .inr ⟨_,_,hq⟩
  ·exact .inl (h3.block k hk hkk)
 unfold Oper.wp execOp
 simp only[ho,hty,resolve,invoke,builtin,Sem.run_bind,Sem.run_pure,Result.andThen_ok,List.map_toArray,List.map_cons,List.map_nil,hs,hx,hrun]
 exact hK _ _ (hk A' c' w' h2 hb hoth)
structure Rv where
 r:Rc
 D:Option Addr
 c:Nat
def cellsOf (x:Rv):List Value:= [.int .i64 x.r.kind,.int .i64 x.r.lba,.int .i64 x.r.n,.int .i64 x.r.ver,.int .i64 x.r.zone,.int .i64 x.r.off,.slice x.D x.r.data.length x.c]
theorem cellsOf_len (x:Rv):(cellsOf x).length=7:=rfl
def OwnsR (base:Nat) (w:World) (s:Value) (n:Nat) (xs:List Rv):Prop:=w.ownsRow base 49 7 s n (xs.flatMap cellsOf)∧xs.length=n
theorem flat_get (xs:List Rv) (i j:Nat) (x:Rv) (v:Value) (hx:xs[i]? =some x) (hv:(cellsOf x)[j]? =some v):(xs.flatMap cellsOf)[i*7+j]? =some v:=by
 induction xs generalizing i with
 |nil=>simp at hx
 |cons y xs ih=>
  have hj:j<7:=(List.getElem?_eq_some_iff.1 hv).1
  rw[List.flatMap_cons]
  rcases i with _|i
  ·simp only[List.getElem?_cons_zero,Option.some.injEq] at hx
   subst hx
   rw[List.getElem?_append_left (by rw[cellsOf_len];omega)]
   simpa using hv
  ·rw[List.getElem?_append_right (by rw[cellsOf_len];omega),cellsOf_len]
   rw[show(i+1)*7+j-7=i*7+j by omega]
   exact ih i (by simpa using hx)
theorem OwnsR.nil (base:Nat) (w:World):OwnsR base w (.slice none 0 0) 0 []:=⟨World.ownsRow_nil _ _ _ _,rfl⟩
theorem OwnsR.keepG {base g:Nat} {w w':World} {s:Value} {n:Nat} {xs:List Rv} (h:OwnsR base w s n xs) (hg:g<base) (k:Crc.Keep g w w'):OwnsR base w' s n xs:=by
 refine⟨⟨h.1.1,?_⟩,h.2⟩
 rcases h.1.2 with hn|⟨q,cap,cur,e',hbg,hq,r⟩
 ·exact .inl hn
 ·exact .inr ⟨q,cap,cur,e',hbg,(Keep.block k (Array.getElem?_eq_some_iff.1 hq).1 (by omega)).trans hq,r⟩
theorem OwnsR.below {base:Nat} {w w':World} {s:Value} {n:Nat} {xs:List Rv} (h:OwnsR base w s n xs) (hb:Below w.heap.size w w'):OwnsR base w' s n xs:=by
 refine⟨⟨h.1.1,?_⟩,h.2⟩
 rcases h.1.2 with hn|⟨q,cap,cur,e',hbg,hq,r⟩
 ·exact .inl hn
 ·exact .inr ⟨q,cap,cur,e',hbg,(hb.block _ (Array.getElem?_eq_some_iff.1 hq).1).trans hq,r⟩
theorem OwnsR.oth {base:Nat} {e:TypeId} {w w':World} {s:Value} {n:Nat} {xs:List Rv} (h:OwnsR base w s n xs) (ho:Oth e w w') (hne:49≠e):OwnsR base w' s n xs:=by
 refine⟨⟨h.1.1,?_⟩,h.2⟩
 rcases h.1.2 with hn|⟨q,cap,cur,e1,hbg,hq,r⟩
 ·exact .inl hn
 ·refine .inr ⟨q,cap,cur,e1,hbg,?_,r⟩
  rcases ho.block q (Array.getElem?_eq_some_iff.1 hq).1 with h1|⟨cur',z,h1⟩
  ·exact h1.trans hq
  ·rw[hq] at h1
   injection h1 with h1
   injection h1 with _ h2
   exact absurd h2 hne
theorem OwnsR.setCell {base:Nat} {w:World} {s:Value} {n:Nat} {xs:List Rv} (h:OwnsR base w s n xs) {p:Addr} (hp:p.block<base) (v:Value):OwnsR base (w.setCell p v) s n xs:=by
 refine⟨⟨h.1.1,?_⟩,h.2⟩
 rcases h.1.2 with hn|⟨q,cap,cur,e',hbg,hq,r⟩
 ·exact .inl hn
 ·exact .inr ⟨q,cap,cur,e',hbg,(Below.heap_setCell _ _ _ _ (by omega)).trans hq,r⟩
theorem OwnsR.mono {base base':Nat} {w:World} {s:Value} {n:Nat} {xs:List Rv} (h:OwnsR base w s n xs) (hb:base'≤base):OwnsR base' w s n xs:=by
 refine⟨⟨h.1.1,?_⟩,h.2⟩
 rcases h.1.2 with hn|⟨q,cap,cur,e',hbg,r⟩
 ·exact .inl hn
 ·exact .inr ⟨q,cap,cur,e',Nat.le_trans hb hbg,r⟩
structure RowR (w:World) (A:Option Addr) (n c:Nat) (xs:List Rv):Prop where
 len:xs.length=n
 cap:n≤c
 big:n≤1954687338211
 at_:0<n→∃b o,A=some ⟨b,o,none⟩∧b<w.heap.size∧∀i x,xs[i]? =some x→∀j v,(cellsOf x)[j]? =some v→w.cell? ⟨b,o+(i*7+j),none⟩=some v
 data:∀x∈xs,Row cb w x.D x.r.data.length x.c x.r.data
theorem RowR.below {w w':World} {A:Option Addr} {n c:Nat} {xs:List Rv} (h:RowR w A n c xs) (hb:Below w.heap.size w w'):RowR w' A n c xs:=by
 refine⟨h.len,h.cap,h.big,fun h0=> ?_,fun x hx=>(h.data x hx).below hb⟩
 obtain⟨b,o,e,hlt,hc⟩:=h.at_ h0
 refine⟨b,o,e,Nat.lt_of_lt_of_le hlt hb.size,fun i x hi j v hv=> ?_⟩
 rw[World.cell?_of_block (w:=w) (hb.block b hlt)]
 exact hc i x hi j v hv
theorem RowR.get {w:World} {A:Option Addr} {n c:Nat} {xs:List Rv} (h:RowR w A n c xs) {i:Nat} (hi:i<n):∃x,xs[i]? =some x:=⟨_,List.getElem?_eq_getElem (by have:=h.len;omega)⟩
theorem OwnsR.row {base:Nat} {w:World} {s:Value} {n:Nat} {xs:List Rv} (h:OwnsR base w s n xs) (hn:n≤1954687338211) (hd:∀x∈xs,Row cb w x.D x.r.data.length x.c x.r.data):∃A c,s= .slice A n c∧RowR w A n c xs:=by
 rcases h.1.2 with⟨rfl,h0⟩|⟨g,cap,cur,rfl,_,hg,hnc,hcm,hs,ht⟩
 ·subst h0
  exact⟨none,0,rfl,h.2,by omega,by omega,fun h=>absurd h (by omega),hd⟩
 ·refine⟨some ⟨g,0,none⟩,cap,rfl,h.2,hnc,hn,fun _=>⟨g,0,rfl,(Array.getElem?_eq_some_iff.1 hg).1,fun i x hx j v hv=> ?_⟩,hd⟩
  have:=World.ownsRow.cells (g:=g) (h.1:w.ownsRow base _ 7 _ n (xs.flatMap cellsOf)) rfl (i*7+j) v (flat_get xs i j x v hx hv)
  simpa [add_none] using this
end Seg
end
end Go.Proofs.YtmkagjnkpjpjcaaGreat
