/-
  SEVERAL TEXTS IN ONE FILE: PLivSortP, PVmLP, PVmSwap, PVmRot, PVmMerge, PLivRuns.
-/
import Derived.Shelf.SlSortCmp.Insertion1
import Derived.Test.YtmkagjnkpjpjcaaGreatRows
import Derived.Sort.WalkB2
import Derived.Sort.WalkB12
import Derived.Deep.LoopGhost
import Derived.Shelf.SlSortCmp.KitK
import Derived.LoopTactic
import Derived.Lib.Hide
import Derived.Deep.DeepCutAuto
import Derived.Lib.LazyBuf
namespace Go.Proofs.YtmkagjnkpjpjcaaGreat
set_option maxRecDepth 100000
set_option linter.unusedSimpArgs false
set_option linter.unusedVariables false
set_option maxHeartbeats 32000000
section
open Go.Sort
namespace Stab
variable {α:Type} {key:α→Int} {r:α→α→Prop}
def T (key:α→Int) (r:α→α→Prop) (x y:α):Prop:=key x<key y∨key x=key y∧r x y
def U (key:α→Int) (r:α→α→Prop) (x y:α):Prop:=key x=key y→r x y
theorem T.u {x y:α} (h:T key r x y):U key r x y:=fun e=>by
 rcases h with h|h
 ·omega
 ·exact h.2
theorem T.le {x y:α} (h:T key r x y):key x≤key y:=by rcases h with h|h<;>omega
theorem t_of {x y:α} (h:U key r x y) (hl:key x≤key y):T key r x y:=by
 by_cases e:key x=key y
 ·exact .inr ⟨e,h e⟩
 ·exact .inl (by omega)
variable [Inhabited α]
def Srt (key:α→Int) (r:α→α→Prop) (d:Array α) (a b:Nat):Prop:=∀i j,a≤i→i<j→j<b→T key r d[i]! d[j]!
def Stb (key:α→Int) (r:α→α→Prop) (d:Array α) (a b:Nat):Prop:=∀i j,a≤i→i<j→j<b→U key r d[i]! d[j]!
structure Mv (d d':Array α) (a b:Nat):Prop where
 size:d'.size=d.size
 out:∀i,¬(a≤i∧i<b)→d'[i]! =d[i]!
 into:∀i,a≤i→i<b→∃j,a≤j∧j<b∧d'[i]! =d[j]!
 perm:d'.toList.Perm d.toList
theorem Mv.refl (d:Array α) (a b:Nat):Mv d d a b:=⟨rfl,fun _ _=>rfl,fun i h1 h2=>⟨i,h1,h2,rfl⟩,List.Perm.refl _⟩
theorem Mv.trans {d d' d'':Array α} {a b:Nat} (h:Mv d d' a b) (k:Mv d' d'' a b):Mv d d'' a b:=
 ⟨k.size.trans h.size,fun i hi=>(k.out i hi).trans (h.out i hi),fun i h1 h2=>by
  obtain⟨j,j1,j2,e⟩:=k.into i h1 h2
  obtain⟨q,q1,q2,e'⟩:=h.into j j1 j2
  exact⟨q,q1,q2,e.trans e'⟩,k.perm.trans h.perm⟩
theorem Mv.mono {d d':Array α} {a b a' b':Nat} (h:Mv d d' a b) (ha:a'≤a) (hb:b≤b'):Mv d d' a' b':=
 ⟨h.size,fun i hi=>h.out i (by omega),fun i h1 h2=>by
  by_cases hi:a≤i∧i<b
  ·obtain⟨j,j1,j2,e⟩:=h.into i hi.1 hi.2
   exact⟨j,by omega,by omega,e⟩
  ·exact⟨i,h1,h2,h.out i hi⟩,h.perm⟩
theorem Srt.stb {d:Array α} {a b:Nat} (h:Srt key r d a b):Stb key r d a b:=fun i j h1 h2 h3=>(h i j h1 h2 h3).u
theorem Srt.mono {d:Array α} {a b a' b':Nat} (h:Srt key r d a b) (ha:a≤a') (hb:b'≤b):Srt key r d a' b':=fun i j h1 h2 h3=>h i j (by omega) h2 (by omega)
theorem Stb.mono {d:Array α} {a b a' b':Nat} (h:Stb key r d a b) (ha:a≤a') (hb:b'≤b):Stb key r d a' b':=fun i j h1 h2 h3=>h i j (by omega) h2 (by omega)
theorem Srt.le {d:Array α} {a b:Nat} (h:Srt key r d a b) {i j:Nat} (h1:a≤i) (h2:i≤j) (h3:j<b):key d[i]! ≤key d[j]! :=by
 by_cases e:i=j
 ·subst e;omega
 ·exact(h i j h1 (by omega) h3).le
theorem srt_one (d:Array α) {a b:Nat} (h:b≤a+1):Srt key r d a b:=fun i j h1 h2 h3=>by omega
theorem srt_same {d d':Array α} {a b:Nat} (h:Srt key r d a b) (e:∀i,a≤i→i<b→d'[i]! =d[i]!):Srt key r d' a b:=fun i j h1 h2 h3=>by
 rw[e i h1 (by omega),e j (by omega) h3];exact h i j h1 h2 h3
theorem srt_join {d d':Array α} {a c b:Nat} (hac:a≤c) (hcb:c≤b) (hl:Srt key r d' a c) (hr:Srt key r d' c b) (hx:∀i j,a≤i→i<c→c≤j→j<b→T key r d'[i]! d'[j]!):Srt key r d' a b:=fun i j h1 h2 h3=>by
 by_cases hi:i<c
 ·by_cases hj:j<c
  ·exact hl i j h1 h2 hj
  ·exact hx i j h1 hi (by omega) h3
 ·exact hr i j (by omega) h2 h3
theorem stb_moved {d d':Array α} {a b c e:Nat} (h:Stb key r d a b) (hm:Mv d d' c e) (h1:a≤c) (h2:e≤b) (hs:Stb key r d' c e):Stb key r d' a b:=fun i j i1 i2 i3=>by
 by_cases hi:c≤i∧i<e
 ·by_cases hj:c≤j∧j<e
  ·exact hs i j hi.1 i2 hj.2
  ·obtain⟨q,q1,q2,eq⟩:=hm.into i hi.1 hi.2
   rw[eq,hm.out j hj]
   exact h q j (by omega) (by omega) i3
 ·by_cases hj:c≤j∧j<e
  ·obtain⟨q,q1,q2,eq⟩:=hm.into j hj.1 hj.2
   rw[eq,hm.out i hi]
   exact h i q i1 (by omega) (by omega)
  ·rw[hm.out i hi,hm.out j hj];exact h i j i1 i2 i3
theorem set_get (d:Array α) (i k:Nat) (x:α) (hi:i<d.size):(d.setIfInBounds i x)[k]! =if k=i then x else d[k]! :=by
 by_cases hk:k<d.size
 ·rw[getElem!_pos (d.setIfInBounds i x) k (by simpa using hk),Array.getElem_setIfInBounds hk,getElem!_pos d k hk]
  by_cases h:k=i
  ·rw[if_pos h,if_pos h.symm]
  ·rw[if_neg h,if_neg (fun e=>h e.symm)]
 ·rw[getElem!_neg (d.setIfInBounds i x) k (by simpa using hk),getElem!_neg d k hk,if_neg (by omega)]
theorem swp_get (d:Array α) (i j k:Nat) (hi:i<d.size) (hj:j<d.size):(swp d i j)[k]! =if k=j then d[i]! else if k=i then d[j]! else d[k]! :=by
 unfold swp
 rw[set_get _ _ _ _ (by simpa using hj),set_get _ _ _ _ hi]
theorem swp_perm (d:Array α) (i j:Nat) (hi:i<d.size) (hj:j<d.size):(swp d i j).toList.Perm d.toList:=by
 have:swp d i j=d.swap i j hi hj:=by
  unfold swp
  have e1:∀(c:Array α) (k:Nat) (x:α) (h:k<c.size),c.setIfInBounds k x=c.set k x h:=fun c k x h=>by unfold Array.setIfInBounds;rw[dif_pos h]
  rw[Array.swap_def,getElem!_pos d i hi,getElem!_pos d j hj,e1 d i _ hi,e1 _ j _ (by simpa using hj)]
 rw[this]
 exact(Array.swap_perm hi hj).toList
theorem swp_size (d:Array α) (i j:Nat):(swp d i j).size=d.size:=by simp[swp]
structure Swr (d d':Array α) (a b n:Nat):Prop where
 size:d'.size=d.size
 get:∀k,d'[k]! =if a≤k∧k<a+n then d[k-a+b]! else if b≤k∧k<b+n then d[k-b+a]! else d[k]!
 perm:d'.toList.Perm d.toList
theorem Swr.zero (d:Array α) (a b:Nat):Swr d d a b 0:=⟨rfl,fun k=>by rw[if_neg (by omega),if_neg (by omega)],List.Perm.refl _⟩
theorem Swr.step {d d':Array α} {a b n:Nat} (h:Swr d d' a b n) (hab:a+n<b) (hb:b+n<d.size):Swr d (swp d' (a+n) (b+n)) a b (n+1):=by
 refine⟨(swp_size _ _ _).trans h.size,fun k=> ?_,(swp_perm _ _ _ (by rw[h.size];omega) (by rw[h.size];omega)).trans h.perm⟩
 rw[swp_get _ _ _ _ (by rw[h.size];omega) (by rw[h.size];omega),h.get k,h.get (a+n),h.get (b+n)]
 rw[if_neg (show ¬(a≤a+n∧a+n<a+n) by omega),if_neg (show ¬(b≤a+n∧a+n<b+n) by omega),if_neg (show ¬(a≤b+n∧b+n<a+n) by omega),if_neg (show ¬(b≤b+n∧b+n<b+n) by omega)]
 by_cases h1:k=b+n
 ·subst h1
  rw[if_pos rfl,if_neg (by omega),if_pos (by omega)]
  congr 1;omega
 ·rw[if_neg h1]
  by_cases h2:k=a+n
  ·subst h2
   rw[if_pos rfl,if_pos (by omega)]
   congr 1;omega
  ·rw[if_neg h2]
   by_cases h3:a≤k∧k<a+n
   ·rw[if_pos h3,if_pos (by omega)]
   ·rw[if_neg h3,if_neg (show ¬(a≤k∧k<a+(n+1)) by omega)]
    by_cases h4:b≤k∧k<b+n
    ·rw[if_pos h4,if_pos (by omega)]
    ·rw[if_neg h4,if_neg (by omega)]
structure Rot (d d':Array α) (a m b:Nat):Prop where
 size:d'.size=d.size
 get:∀k,d'[k]! =if a≤k∧k<a+(b-m) then d[k+(m-a)]! else if a+(b-m)≤k∧k<b then d[k-(b-m)]! else d[k]!
 perm:d'.toList.Perm d.toList
theorem Rot.none_l (d:Array α) (m b:Nat):Rot d d m m b:=⟨rfl,fun k=>by
 by_cases h:m≤k∧k<m+(b-m)
 ·rw[if_pos h];congr 1;omega
 ·rw[if_neg h,if_neg (by omega)],List.Perm.refl _⟩
theorem Rot.none_r (d:Array α) (a m:Nat):Rot d d a m m:=⟨rfl,fun k=>by
 rw[if_neg (by omega)]
 by_cases h:a+(m-m)≤k∧k<m
 ·rw[if_pos h];congr 1;omega
 ·rw[if_neg h],List.Perm.refl _⟩
theorem Rot.mv {d d':Array α} {a m b:Nat} (h:Rot d d' a m b) (h1:a≤m) (h2:m≤b):Mv d d' a b:=by
 refine⟨h.size,fun i hi=> ?_,fun i i1 i2=> ?_,h.perm⟩
 ·rw[h.get,if_neg (by omega),if_neg (by omega)]
 ·rw[h.get]
  by_cases hi:i<a+(b-m)
  ·rw[if_pos ⟨i1,hi⟩];exact⟨_,by omega,by omega,rfl⟩
  ·rw[if_neg (by omega),if_pos (by omega)];exact⟨_,by omega,by omega,rfl⟩
theorem Rot.left {d d1 d2:Array α} {i j m:Nat} (hij:j<i) (him:i≤m) (h:Swr d d1 (m-i) m j) (k:Rot d1 d2 (m-(i-j)) m (m+j)):Rot d d2 (m-i) m (m+j):=by
 refine⟨k.size.trans h.size,fun q=> ?_,k.perm.trans h.perm⟩
 rw[k.get]
 have e1:m+j-m=j:=by omega
 have e2:m-(m-(i-j))=i-j:=by omega
 have e3:m-(m-i)=i:=by omega
 rw[e1,e2,e3]
 by_cases h1:m-i≤q∧q<m-i+j
 ·rw[if_pos h1,if_neg (by omega),if_neg (by omega),h.get,if_pos h1]
  congr 1;omega
 ·rw[if_neg h1]
  by_cases h2:m-i+j≤q∧q<m+j
  ·rw[if_pos h2]
   by_cases h3:q<m-(i-j)+j
   ·rw[if_pos (by omega),h.get]
    by_cases h4:q+(i-j)<m
    ·rw[if_neg (by omega),if_neg (by omega)]
     exfalso;omega
    ·rw[if_neg (by omega),if_pos (by omega)]
     congr 1;omega
   ·rw[if_neg (by omega),if_pos (by omega),h.get,if_neg (by omega),if_neg (by omega)]
  ·rw[if_neg h2,if_neg (by omega),if_neg (by omega),h.get,if_neg (by omega),if_neg (by omega)]
theorem Rot.right {d d1 d2:Array α} {i j m:Nat} (hij:i<j) (him:i≤m) (h:Swr d d1 (m-i) (m+j-i) i) (k:Rot d1 d2 (m-i) m (m+(j-i))):Rot d d2 (m-i) m (m+j):=by
 refine⟨k.size.trans h.size,fun q=> ?_,k.perm.trans h.perm⟩
 rw[k.get]
 have e1:m+(j-i)-m=j-i:=by omega
 have e2:m-(m-i)=i:=by omega
 have e3:m+j-m=j:=by omega
 rw[e1,e2,e3]
 by_cases h1:m-i≤q∧q<m-i+(j-i)
 ·rw[if_pos h1,if_pos (by omega),h.get,if_neg (by omega),if_neg (by omega)]
 ·rw[if_neg h1]
  by_cases h2:m-i+(j-i)≤q∧q<m+(j-i)
  ·rw[if_pos h2,if_pos (by omega),h.get,if_pos (by omega)]
   congr 1;omega
  ·rw[if_neg h2,h.get]
   by_cases h3:m-i+j≤q∧q<m+j
   ·rw[if_neg (by omega),if_pos (by omega),if_neg (by omega),if_pos h3]
    congr 1;omega
   ·rw[if_neg (by omega),if_neg (by omega),if_neg (by omega),if_neg h3]
theorem Rot.equal {d d1:Array α} {i m:Nat} (him:i≤m) (h:Swr d d1 (m-i) m i):Rot d d1 (m-i) m (m+i):=by
 refine⟨h.size,fun q=> ?_,h.perm⟩
 rw[h.get]
 have e1:m+i-m=i:=by omega
 have e2:m-(m-i)=i:=by omega
 rw[e1,e2]
 by_cases h1:m-i≤q∧q<m-i+i
 ·rw[if_pos h1,if_pos h1];congr 1;omega
 ·rw[if_neg h1,if_neg h1]
  by_cases h2:m≤q∧q<m+i
  ·rw[if_pos h2,if_pos (by omega)];congr 1;omega
  ·rw[if_neg h2,if_neg (by omega)]
theorem Rot.up {d dk:Array α} {a k:Nat} (h:Rot d dk a (a+1) (k+1)) (hak:a≤k) (hk:k+1<d.size):Rot d (swp dk k (k+1)) a (a+1) (k+2):=by
 refine⟨(swp_size _ _ _).trans h.size,fun q=> ?_,(swp_perm _ _ _ (by rw[h.size];omega) (by rw[h.size];omega)).trans h.perm⟩
 rw[swp_get _ _ _ _ (by rw[h.size];omega) (by rw[h.size];omega),h.get k,h.get (k+1),h.get q]
 have e1:k+1-(a+1)=k-a:=by omega
 have e2:k+2-(a+1)=k+1-a:=by omega
 have e3:a+1-a=1:=by omega
 rw[e1,e2,e3]
 by_cases h1:q=k+1
 ·subst h1
  rw[if_pos rfl,if_neg (by omega),if_pos (by omega),if_neg (by omega),if_pos (by omega)]
  congr 1;omega
 ·rw[if_neg h1]
  by_cases h2:q=k
  ·subst h2
   rw[if_pos rfl,if_neg (by omega),if_neg (by omega),if_pos (by omega)]
  ·rw[if_neg h2]
   by_cases h3:a≤q∧q<a+(k-a)
   ·rw[if_pos h3,if_pos (by omega)]
   ·rw[if_neg h3,if_neg (by omega),if_neg (by omega),if_neg (by omega)]
theorem Rot.down {d dk:Array α} {k m:Nat} (h:Rot d dk (k+1) m (m+1)) (hkm:k+1≤m) (hm:m<d.size):Rot d (swp dk (k+1) k) k m (m+1):=by
 refine⟨(swp_size _ _ _).trans h.size,fun q=> ?_,(swp_perm _ _ _ (by rw[h.size];omega) (by rw[h.size];omega)).trans h.perm⟩
 rw[swp_get _ _ _ _ (by rw[h.size];omega) (by rw[h.size];omega),h.get k,h.get (k+1),h.get q]
 have e1:m+1-m=1:=by omega
 rw[e1]
 by_cases h1:q=k
 ·subst h1
  rw[if_pos rfl,if_pos (by omega),if_pos (by omega)]
  congr 1;omega
 ·rw[if_neg h1]
  by_cases h2:q=k+1
  ·subst h2
   rw[if_pos rfl,if_neg (by omega),if_neg (by omega),if_neg (by omega),if_pos (by omega)]
   congr 1
  ·rw[if_neg h2,if_neg (by omega),if_neg (show ¬(k≤q∧q<k+1) by omega)]
   by_cases h3:k+1+1≤q∧q<m+1
   ·rw[if_pos h3,if_pos (by omega)]
   ·rw[if_neg h3,if_neg (by omega)]
section
variable {d d':Array α} {a s m e b:Nat}
theorem Rot.at_l (R:Rot d d' s m e) {k:Nat} (h:k<s):d'[k]! =d[k]! :=by rw[R.get,if_neg (by omega),if_neg (by omega)]
theorem Rot.at_y (R:Rot d d' s m e) {k:Nat} (h1:s≤k) (h2:k<s+(e-m)):d'[k]! =d[k+(m-s)]! :=by rw[R.get,if_pos ⟨h1,h2⟩]
theorem Rot.at_x (R:Rot d d' s m e) {k:Nat} (h1:s+(e-m)≤k) (h2:k<e):d'[k]! =d[k-(e-m)]! :=by rw[R.get,if_neg (by omega),if_pos ⟨h1,h2⟩]
theorem Rot.at_r (R:Rot d d' s m e) (h1:s≤m) (h2:m≤e) {k:Nat} (h:e≤k):d'[k]! =d[k]! :=by rw[R.get,if_neg (by omega),if_neg (by omega)]
structure Cutting (key:α→Int) (r:α→α→Prop) (d d':Array α) (a s m e b:Nat):Prop where
 R:Rot d d' s m e
 hs:a≤s
 hsm:s≤m
 hme:m≤e
 heb:e≤b
 HL:Srt key r d a m
 HR:Srt key r d m b
 HU:Stb key r d a b
 H1:∀x y,s≤x→x<m→m≤y→y<e→key d[y]! <key d[x]!
theorem rot_parts (C:Cutting key r d d' a s m e b):Srt key r d' a s∧Srt key r d' s (s+(e-m))∧Srt key r d' (s+(e-m)) e∧Srt key r d' e b:=by
 obtain⟨R,hs,hsm,hme,heb,HL,HR,HU,H1⟩:=C
 refine⟨fun i j h1 h2 h3=> ?_,fun i j h1 h2 h3=> ?_,fun i j h1 h2 h3=> ?_,fun i j h1 h2 h3=> ?_⟩
 ·rw[R.at_l (by omega),R.at_l h3];exact HL i j h1 h2 (by omega)
 ·rw[R.at_y h1 (by omega),R.at_y (by omega) h3];exact HR _ _ (by omega) (by omega) (by omega)
 ·rw[R.at_x h1 (by omega),R.at_x (by omega) h3];exact HL _ _ (by omega) (by omega) (by omega)
 ·rw[R.at_r hsm hme h1,R.at_r hsm hme (by omega)];exact HR i j (by omega) h2 h3
theorem rot_stb_l (C:Cutting key r d d' a s m e b):Stb key r d' a (s+(e-m)):=fun i j h1 h2 h3=>by
 obtain⟨R,hs,hsm,hme,heb,HL,HR,HU,H1⟩:=C
 by_cases hi:i<s
 ·rw[R.at_l hi]
  by_cases hj:j<s
  ·rw[R.at_l hj];exact HU i j h1 h2 (by omega)
  ·rw[R.at_y (by omega) h3];exact HU i _ h1 (by omega) (by omega)
 ·rw[R.at_y (by omega) (by omega),R.at_y (by omega) h3];exact HU _ _ (by omega) (by omega) (by omega)
theorem rot_stb_r (C:Cutting key r d d' a s m e b):Stb key r d' (s+(e-m)) b:=fun i j h1 h2 h3=>by
 obtain⟨R,hs,hsm,hme,heb,HL,HR,HU,H1⟩:=C
 by_cases hi:i<e
 ·rw[R.at_x h1 hi]
  by_cases hj:j<e
  ·rw[R.at_x (by omega) hj];exact HU _ _ (by omega) (by omega) (by omega)
  ·rw[R.at_r hsm hme (by omega)];exact HU _ j (by omega) (by omega) h3
 ·rw[R.at_r hsm hme (by omega),R.at_r hsm hme (by omega)];exact HU i j (by omega) h2 h3
theorem rot_cross (C:Cutting key r d d' a s m e b) (H2:∀x y,a≤x→x<s→e≤y→y<b→key d[x]! ≤key d[y]!):∀i j,a≤i→i<s+(e-m)→s+(e-m)≤j→j<b→T key r d'[i]! d'[j]! :=fun i j h1 h2 h3 h4=>by
 obtain⟨R,hs,hsm,hme,heb,HL,HR,HU,H1⟩:=C
 by_cases hi:i<s
 ·rw[R.at_l hi]
  by_cases hj:j<e
  ·rw[R.at_x h3 hj];exact HL i _ h1 (by omega) (by omega)
  ·rw[R.at_r hsm hme (by omega)];exact t_of (HU i j h1 (by omega) h4) (H2 i j h1 hi (by omega) h4)
 ·rw[R.at_y (by omega) h2]
  by_cases hj:j<e
  ·rw[R.at_x h3 hj];exact .inl (H1 _ _ (by omega) (by omega) (by omega) (by omega))
  ·rw[R.at_r hsm hme (by omega)];exact HR _ j (by omega) (by omega) h4
theorem rot_sorted (C:Cutting key r d d' a s m e b) (H2:∀x y,a≤x→x<s→e≤y→y<b→key d[x]! ≤key d[y]!) (H3:∀x y,a≤x→x<s→m≤y→y<e→key d[x]! ≤key d[y]!) (H4:∀x y,s≤x→x<m→e≤y→y<b→key d[x]! ≤key d[y]!):Srt key r d' a b:=by
 obtain⟨p1,p2,p3,p4⟩:=rot_parts C
 have hx:=rot_cross C H2
 obtain⟨R,hs,hsm,hme,heb,HL,HR,HU,H1⟩:=C
 refine srt_join (c:=s+(e-m)) (d:=d) (by omega) (by omega) ?_ ?_ hx
 ·refine srt_join (c:=s) (d:=d) hs (by omega) p1 p2 fun i j h1 h2 h3 h4=> ?_
  rw[R.at_l h2,R.at_y h3 h4]
  exact t_of (HU _ _ h1 (by omega) (by omega)) (H3 _ _ h1 h2 (by omega) (by omega))
 ·refine srt_join (c:=e) (d:=d) (by omega) heb p3 p4 fun i j h1 h2 h3 h4=> ?_
  rw[R.at_x h1 h2,R.at_r hsm hme h3]
  exact t_of (HU _ _ (by omega) (by omega) h4) (H4 _ _ (by omega) (by omega) h3 h4)
theorem rot_done (C:Cutting key r d d' a s m e b) (H2:∀x y,a≤x→x<s→e≤y→y<b→key d[x]! ≤key d[y]!) {c:Nat} (hc:c=s+(e-m)) {d2 d3:Array α} (M2:Mv d' d2 a c) (S2:Srt key r d2 a c) (M3:Mv d2 d3 c b) (S3:Srt key r d3 c b):Srt key r d3 a b∧Mv d d3 a b:=by
 subst hc
 have hx:=rot_cross C H2
 obtain⟨R,hs,hsm,hme,heb,HL,HR,HU,H1⟩:=C
 refine⟨srt_join (c:=s+(e-m)) (d:=d) (by omega) (by omega) (srt_same S2 fun i h1 h2=>M3.out i (by omega)) S3 fun i j h1 h2 h3 h4=> ?_,((R.mv hsm hme).mono hs heb).trans ((M2.mono (Nat.le_refl _) (by omega)).trans (M3.mono (by omega) (Nat.le_refl _)))⟩
 rw[M3.out i (by omega)]
 obtain⟨i',i1,i2,ei⟩:=M2.into i h1 h2
 obtain⟨j',j1,j2,ej⟩:=M3.into j h3 h4
 rw[ei,ej,M2.out j' (by omega)]
 exact hx i' j' i1 i2 j1 j2
theorem left_pre (C:Cutting key r d d' a s m e b):Srt key r d' a s∧Srt key r d' s (s+(e-m))∧Stb key r d' a (s+(e-m)):=⟨(rot_parts C).1,(rot_parts C).2.1,rot_stb_l C⟩
theorem left_none (C:Cutting key r d d' a s m e b) (h:¬(a<s∧s<s+(e-m))):Srt key r d' a (s+(e-m)):=by
 have hs:=C.hs
 have hp:=rot_parts C
 by_cases h1:a<s
 ·have:s+(e-m)=s:=by omega
  rw[this];exact hp.1
 ·have:a=s:=by omega
  subst this;exact hp.2.1
theorem right_pre (C:Cutting key r d d' a s m e b) {d2:Array α} (M:Mv d' d2 a (s+(e-m))):Srt key r d2 (s+(e-m)) e∧Srt key r d2 e b∧Stb key r d2 (s+(e-m)) b:=by
 have hsm:=C.hsm
 have hme:=C.hme
 have hp:=rot_parts C
 have hu:=rot_stb_r C
 refine⟨srt_same hp.2.2.1 fun i h1 h2=>M.out i (by omega),srt_same hp.2.2.2 fun i h1 h2=>M.out i (by omega),fun i j h1 h2 h3=> ?_⟩
 rw[M.out i (by omega),M.out j (by omega)];exact hu i j h1 h2 h3
theorem right_none (C:Cutting key r d d' a s m e b) {d2:Array α} (M:Mv d' d2 a (s+(e-m))) (h:¬(s+(e-m)<e∧e<b)):Srt key r d2 (s+(e-m)) b:=by
 have hsm:=C.hsm
 have hme:=C.hme
 have heb:=C.heb
 obtain⟨p1,p2,-⟩:=right_pre C M
 by_cases h1:s+(e-m)<e
 ·have:e=b:=by omega
  subst this;exact p1
 ·have:s+(e-m)=e:=by omega
  rw[this];exact p2
end
theorem insInner_spec {lt:α→α→Bool} (hlt:∀x y,lt x y=decide (key x<key y)) {a i:Nat} (hai:a≤i):∀(j:Nat) (d:Array α),i<d.size→j≤i→a≤j→
  (∀p q,a≤p→p<q→q≤i→p≠j→q≠j→T key r d[p]! d[q]!)→(∀q,j<q→q≤i→key d[j]! <key d[q]!)→Stb key r d a (i+1)→
  Srt key r (insInner lt a j d) a (i+1)∧Mv d (insInner lt a j d) a (i+1):=by
 intro j
 induction j with
 |zero=>
  intro d hi hj ha hT hK hU
  refine⟨fun p q h1 h2 h3=> ?_,Mv.refl _ _ _⟩
  show T key r d[p]! d[q]!
  by_cases hp:p=0
  ·subst hp;exact .inl (hK q (by omega) (by omega))
  ·exact hT p q h1 h2 (by omega) hp (by omega)
 |succ j ih=>
  intro d hi hj ha hT hK hU
  unfold insInner
  by_cases hc:(decide (j+1>a)&&lt d[j+1]! d[j]!)=true
  ·rw[if_pos hc]
   rw[Bool.and_eq_true,decide_eq_true_eq,hlt,decide_eq_true_eq] at hc
   have g:=fun k=>swp_get d (j+1) j k (by omega) (by omega)
   have hU2:Stb key r (swp d (j+1) j) a (i+1):=fun p q h1 h2 h3=>by
    rw[g p,g q]
    by_cases p1:p=j
    ·subst p1
     by_cases q1:q=p+1
     ·subst q1
      rw[if_pos rfl,if_neg (by omega),if_pos rfl]
      intro e;omega
     ·rw[if_pos rfl,if_neg (by omega),if_neg q1];exact hU _ q (by omega) (by omega) h3
    ·by_cases p2:p=j+1
     ·rw[if_neg p1,if_pos p2,if_neg (by omega),if_neg (by omega)];exact hU j q (by omega) (by omega) h3
     ·rw[if_neg p1,if_neg p2]
      by_cases q1:q=j
      ·rw[if_pos q1];exact hU p _ h1 (by omega) (by omega)
      ·rw[if_neg q1]
       by_cases q2:q=j+1
       ·rw[if_pos q2];exact hU p j h1 (by omega) (by omega)
       ·rw[if_neg q2];exact hU p q h1 h2 h3
   obtain⟨r1,r2⟩:=ih (swp d (j+1) j) (by rw[swp_size];omega) (by omega) (by omega)
    (fun p q h1 h2 h3 p1 q1=>by
     rw[g p,g q,if_neg p1,if_neg q1]
     by_cases p2:p=j+1
     ·rw[if_pos p2,if_neg (by omega)];exact hT j q (by omega) (by omega) h3 (by omega) (by omega)
     ·rw[if_neg p2]
      by_cases q2:q=j+1
      ·rw[if_pos q2];exact hT p j h1 (by omega) (by omega) p2 (by omega)
      ·rw[if_neg q2];exact hT p q h1 h2 h3 p2 q2)
    (fun q h1 h2=>by
     rw[g j,g q,if_pos rfl,if_neg (by omega)]
     by_cases q2:q=j+1
     ·rw[if_pos q2];exact hc.2
     ·rw[if_neg q2];exact hK q (by omega) h2) hU2
   refine⟨r1,Mv.trans ⟨swp_size _ _ _,fun k hk=> ?_,fun k k1 k2=> ?_,swp_perm _ _ _ (by omega) (by omega)⟩ r2⟩
   ·rw[g k,if_neg (by omega),if_neg (by omega)]
   ·rw[g k]
    by_cases q1:k=j
    ·rw[if_pos q1];exact⟨j+1,by omega,by omega,rfl⟩
    ·rw[if_neg q1]
     by_cases q2:k=j+1
     ·rw[if_pos q2];exact⟨j,by omega,by omega,rfl⟩
     ·rw[if_neg q2];exact⟨k,k1,k2,rfl⟩
  ·rw[if_neg hc]
   have hc':j+1=a∨key d[j]! ≤key d[j+1]! :=by
    rw[Bool.and_eq_true,decide_eq_true_eq,hlt,decide_eq_true_eq] at hc
    omega
   refine⟨fun p q h1 h2 h3=> ?_,Mv.refl _ _ _⟩
   by_cases p1:p=j+1
   ·rw[p1];exact .inl (hK q (by omega) (by omega))
   ·by_cases q1:q=j+1
    ·have hle:key d[p]! ≤key d[j]! :=by
       by_cases e:p=j
       ·rw[e];exact Int.le_refl _
       ·exact(hT p j h1 (by omega) (by omega) p1 (by omega)).le
     rw[q1]
     exact t_of (hU p (j+1) h1 (by omega) (by omega)) (by omega)
    ·exact hT p q h1 h2 (by omega) p1 q1
theorem insOuter_spec {lt:α→α→Bool} (hlt:∀x y,lt x y=decide (key x<key y)) {a b:Nat}:∀(k i:Nat) (d:Array α),b-i≤k→a≤i→i≤b→b≤d.size→Srt key r d a i→Stb key r d a b→
  Srt key r (insOuter lt a b i d) a b∧Mv d (insOuter lt a b i d) a b:=by
 intro k
 induction k with
 |zero=>
  intro i d hk ha hi hb hS hU
  have:i=b:=by omega
  subst this
  rw[insOuter,if_neg (by omega)]
  exact⟨hS,Mv.refl _ _ _⟩
 |succ k ih=>
  intro i d hk ha hi hb hS hU
  rw[insOuter]
  by_cases h:i<b
  ·rw[if_pos h]
   obtain⟨s1,m1⟩:=insInner_spec (r:=r) hlt ha i d (by omega) (Nat.le_refl _) ha (fun p q h1 h2 h3 p1 q1=>hS p q h1 h2 (by omega)) (fun q h1 h2=>by omega) (hU.mono (Nat.le_refl _) h)
   obtain⟨s2,m2⟩:=ih (i+1) (insInner lt a i d) (by omega) (by omega) h (by rw[m1.size];exact hb) s1 (stb_moved hU m1 (Nat.le_refl _) h s1.stb)
   exact⟨s2,(m1.mono (Nat.le_refl _) h).trans m2⟩
  ·rw[if_neg h]
   have:i=b:=by omega
   subst this
   exact⟨hS,Mv.refl _ _ _⟩
theorem ins_spec {lt:α→α→Bool} (hlt:∀x y,lt x y=decide (key x<key y)) {a b:Nat} {d:Array α} (hab:a≤b) (hb:b≤d.size) (hU:Stb key r d a b):Srt key r (insertionSort lt d a b) a b∧Mv d (insertionSort lt d a b) a b:=by
 unfold insertionSort
 by_cases h:a<b
 ·exact insOuter_spec hlt (b-(a+1)) (a+1) d (by omega) (by omega) h hb (srt_one _ (by omega)) hU
 ·have:a=b:=by omega
  subst this
  rw[insOuter,if_neg (by omega)]
  exact⟨srt_one _ (by omega),Mv.refl _ _ _⟩
end Stab
end
section
open Go.Shelf Go.RowKit Go.Lib Go.Sort
namespace Vm
structure LP (P:Program) (k:Nat):Prop where
 mixed:P.follows .mixedOrders=true
 t0:P.underlying 0=some (.tuple #[])
 a0:∀w,(isAgg 0).run P w= .ok false w
 z0:∀w,(Go.sizeOf 0).run P w= .ok 1 w
 v0:∀w,(zeroValue 0).run P w= .ok (.tuple #[]) w
 t3:P.underlying 3=some (.int .i64)
 a3:∀w,(isAgg 3).run P w= .ok false w
 z3:∀w,(Go.sizeOf 3).run P w= .ok 1 w
 v3:∀w,(zeroValue 3).run P w= .ok (.int .i64 0) w
 t4:P.underlying 4=some (.bool)
 a4:∀w,(isAgg 4).run P w= .ok false w
 z4:∀w,(Go.sizeOf 4).run P w= .ok 1 w
 v4:∀w,(zeroValue 4).run P w= .ok (.bool false) w
 tu:P.underlying 175=some (.int .u64)
 au:∀w,(isAgg 175).run P w= .ok false w
 zu:∀w,(Go.sizeOf 175).run P w= .ok 1 w
 vu:∀w,(zeroValue 175).run P w= .ok (.int .u64 0) w
 tl:P.underlying 30=some (.slice 60)
 al:∀w,(isAgg 30).run P w= .ok false w
 zl:∀w,(Go.sizeOf 30).run P w= .ok 1 w
 vl:∀w,(zeroValue 30).run P w= .ok (.slice none 0 0) w
 tc:P.underlying 136=some (.func #[60,60] #[3] false)
 ac:∀w,(isAgg 136).run P w= .ok false w
 zc:∀w,(Go.sizeOf 136).run P w= .ok 1 w
 vc:∀w,(zeroValue 136).run P w= .ok (.nilFunc) w
 aE:∀w,(isAgg 60).run P w= .ok true w
 zE:∀w,(Go.sizeOf 60).run P w= .ok k w
 fsw:P.funcs[211]? =some Tryz.f211
 esw:∀args w,(callFunc 211 args).run P w= .ok (.enter 211 args) w
 fro:P.funcs[206]? =some Tryz.f206
 ero:∀args w,(callFunc 206 args).run P w= .ok (.enter 206 args) w
 fme:P.funcs[197]? =some Tryz.f197
 eme:∀args w,(callFunc 197 args).run P w= .ok (.enter 197 args) w
 fst:P.funcs[174]? =some Tryz.f174
 est:∀args w,(callFunc 174 args).run P w= .ok (.enter 174 args) w
 fins:P.funcs[147]? =some Tryz.f147
 eins:∀args w,(callFunc 147 args).run P w= .ok (.enter 147 args) w
theorem lp:LP Tryz.prog 5:=⟨by kernel_rfl,Tryz.underlying0,Tryz.isAgg0,Tryz.sizeOf0,Tryz.zeroValue0,Tryz.underlying3,Tryz.isAgg3,Tryz.sizeOf3,Tryz.zeroValue3,Tryz.underlying4,Tryz.isAgg4,Tryz.sizeOf4,Tryz.zeroValue4,Tryz.underlying175,Tryz.isAgg175,Tryz.sizeOf175,Tryz.zeroValue175,Tryz.underlying30,Tryz.isAgg30,Tryz.sizeOf30,Tryz.zeroValue30,Tryz.underlying136,Tryz.isAgg136,Tryz.sizeOf136,Tryz.zeroValue136,Tryz.isAgg60,Tryz.sizeOf60,Tryz.func211,enters_of Tryz.func211 (by kernel_rfl) rfl,Tryz.func206,enters_of Tryz.func206 (by kernel_rfl) rfl,Tryz.func197,enters_of Tryz.func197 (by kernel_rfl) rfl,Tryz.func174,enters_of Tryz.func174 (by kernel_rfl) rfl,Tryz.func147,enters_of Tryz.func147 (by kernel_rfl) rfl⟩
end Vm
end
section
open Go.Shelf Go.RowKit Go.Lib Go.Sort Stab
namespace Vm
variable {α:Type} [Inhabited α]
theorem swapRange_s {P:Program} {kk:Nat} (L:LP P kk) {enc:α→List Value} {blk off:Nat} (cap a b n:Nat) {d0 d:Array α} {w0 w:World} (fv:Value) (R:RowK enc kk w0 blk off d0) (hs:d0.size=d.size) (S:SWK enc kk w0 blk off d w) (hab:a+n≤b) (hb:b+n≤d.size) (hsz:d.size<1000000):
  Calls P 211 #[.slice (some ⟨blk,off,none⟩) d.size cap,.int .i64 a,.int .i64 b,.int .i64 n,fv] w fun e w'=>e= .returned (.tuple #[])∧∃d',Swr d d' a b n∧SWK enc kk w0 blk off d' w':=by
 have mixed:=L.mixed;have t0:=L.t0;have a0:=L.a0;have z0:=L.z0;have v0:=L.v0;have t3:=L.t3;have a3:=L.a3;have z3:=L.z3;have v3:=L.v3;have t4:=L.t4;have a4:=L.a4;have z4:=L.z4;have v4:=L.v4;have tu:=L.tu;have au:=L.au;have zu:=L.zu;have vu:=L.vu;have tl:=L.tl;have al:=L.al;have zl:=L.zl;have vl:=L.vl;have tc:=L.tc;have ac:=L.ac;have zc:=L.zc;have vc:=L.vc;have aE:=L.aE;have zE:=L.zE
 have S0:Aside (SWK enc kk w0 blk off d w):=S
 clear S
 have FG:=L.fsw
 have esw:=L.esw
 have ero:=L.ero
 have eme:=L.eme
 have est:=L.est
 have eins:=L.eins
 go_enter FG,Tryz.ntmps211
 go_wp2
 go_loopw [10] (fun vi wr=>∃(i:Nat) (dk:Array α),vi= .int .i64 i∧i≤n∧dk.size=d.size∧Aside (SWK enc kk w0 blk off dk wr)∧Hid (Swr d dk a b i)) (fun vi _=>n-(intOf vi).toNat)
 case atStart=>exact⟨0,d,rfl,by omega,rfl,S0,Swr.zero d a b⟩
 case round=>
  clear S0
  obtain⟨i,dk,rfl,hi,hsk,S1,HW⟩:=hrel
  by_cases hlt:i<n
  ·have hltz:(i:Int)<(n:Int):=by omega
   have eiN:((a:Int)+(i:Int)).toNat=a+i:=by omega
   have piN:(0:Int)≤(a:Int)+(i:Int):=by omega
   have biN:(a:Int)+(i:Int)<(d.size:Int):=by omega
   have riN:IntKind.i64.wrap ((a:Int)+(i:Int))=(a:Int)+(i:Int):=by rw[IntKind.wrap_i64];omega
   have ejN:((b:Int)+(i:Int)).toNat=b+i:=by omega
   have pjN:(0:Int)≤(b:Int)+(i:Int):=by omega
   have bjN:(b:Int)+(i:Int)<(d.size:Int):=by omega
   have rjN:IntKind.i64.wrap ((b:Int)+(i:Int))=(b:Int)+(i:Int):=by rw[IntKind.wrap_i64];omega
   have S2:Aside (SWK enc kk w0 blk off (swp dk (a+i) (b+i)) ((wr.drew.setCells blk (off+(a+i)*kk) (enc dk[b+i]!)).setCells blk (off+(b+i)*kk) (enc dk[a+i]!))):=S1.out.swapped R (a+i) (b+i) (by omega) (by omega)
   have l1:=S1.out.ld1 R (by omega) P (a+i) (by omega)
   have l2:=S1.out.ld1 R (by omega) P (b+i) (by omega)
   have s1:=S1.out.st1 R (by omega) P (a+i) (by omega) dk[b+i]!
   have s2:=S1.out.st2 R (by omega) P (a+i) (b+i) (by omega) (by omega) dk[b+i]! dk[a+i]!
   have n1:(enc dk[a+i]!).length=kk:=R.hk _
   have n2:(enc dk[b+i]!).length=kk:=R.hk _
   generalize enc dk[a+i]! =cI at S2 l1 s2 n1
   generalize enc dk[b+i]! =cJ at S2 l2 s1 s2 n2
   clear S1
   go_wp2_with fail
   go_big_region_o
   clear l1 l2 s1 s2 n1 n2
   generalize(wr.drew.setCells blk (off+(a+i)*kk) cJ).setCells blk (off+(b+i)*kk) cI=w2 at S2 ⊢
   clear eiN ejN piN pjN biN bjN riN rjN
   go_wp2_with fail
   go_roundw
   case rel=>exact⟨i+1,swp dk (a+i) (b+i),by go_num,by omega,by rw[Stab.swp_size];exact hsk,S2,HW.out.step (by omega) (by omega)⟩
   case measure=>simp[intOf];omega
  ·have hltz:¬(i:Int)<(n:Int):=by omega
   go_wp2_with fail
   go_end0
   have:i=n:=by omega
   subst this
   exact⟨rfl,dk,HW.out,S1.out⟩
end Vm
end
section
open Go.Shelf Go.RowKit Go.Lib Go.Sort Stab
namespace Vm
variable {α:Type} [Inhabited α]
theorem rotate_s {P:Program} {kk:Nat} (L:LP P kk) {enc:α→List Value} {blk off:Nat} (cap a m b:Nat) {d0 d:Array α} {w0 w:World} (fv:Value) (R:RowK enc kk w0 blk off d0) (hs:d0.size=d.size) (S:SWK enc kk w0 blk off d w) (ham:a<m) (hmb:m<b) (hb:b≤d.size) (hsz:d.size<1000000):
  Calls P 206 #[.slice (some ⟨blk,off,none⟩) d.size cap,.int .i64 a,.int .i64 m,.int .i64 b,fv] w fun e w'=>e= .returned (.tuple #[])∧∃d',Rot d d' a m b∧SWK enc kk w0 blk off d' w':=by
 have S0:Aside (SWK enc kk w0 blk off d w):=S
 clear S
 have hi0:(m:Int)-(a:Int)=((m-a:Nat):Int):=by omega
 have hj0:(b:Int)-(m:Int)=((b-m:Nat):Int):=by omega
 generalize hI:m-a=i0 at hi0
 generalize hJ:b-m=j0 at hj0
 have HI0:Hid (a=m-i0∧b=m+j0∧1≤i0∧i0≤m∧1≤j0):=by refine⟨?_,?_,?_,?_,?_⟩<;>omega
 clear hI hJ
 have FG:=L.fro
 have esw:=L.esw
 have ero:=L.ero
 have eme:=L.eme
 have est:=L.est
 have eins:=L.eins
 go_enter FG,Tryz.ntmps206
 go_wp2_with fail
 clear hi0 hj0
 go_loopw [10,11] (fun vi vj wr=>∃(i j:Nat) (dk:Array α),vi= .int .i64 i∧vj= .int .i64 j∧1≤i∧1≤j∧i≤m∧m+j≤b∧dk.size=d.size∧Aside (SWK enc kk w0 blk off dk wr)∧Hid (∀d2,Rot dk d2 (m-i) m (m+j)→Rot d d2 a m b)) (fun vi vj _=>(intOf vi).toNat+(intOf vj).toNat)
 case atStart=>exact⟨i0,j0,d,rfl,rfl,HI0.out.2.2.1,HI0.out.2.2.2.2,HI0.out.2.2.2.1,by have:=HI0.out;omega,rfl,S0,fun d2 h=>by rw[HI0.out.1,HI0.out.2.1];exact h⟩
 case round=>
  clear S0 HI0
  obtain⟨i,j,dk,rfl,rfl,hi,hj,him,hjb,hsk,S1,HR⟩:=hrel
  have hq:(m:Int)-(i:Int)=((m-i:Nat):Int):=by omega
  by_cases hij:i=j
  ·subst hij
   generalize hqq:m-i=q at hq HR
   have HQ:=Lib.hid hqq
   clear hqq
   go_wp2_with (go_at_call 211;rw[←hsk];refine(swapRange_s L cap q m i fv R (hs.trans hsk.symm) S1.out (by omega) (by omega) (by omega)).mono ?_;rintro e' w2 ⟨rfl,d2,hW,hS⟩;have HW:=Lib.hid hW;have S2:Aside (SWK enc kk w0 blk off d2 w2):=hS;clear hW hS)
   go_end0
   subst_vars
   exact⟨rfl,d2,HR.out d2 (Rot.equal him HW.out),S2.out⟩
  ·have hne:¬(i:Int)=(j:Int):=by omega
   by_cases hgt:j<i
   ·have hg1:(j:Int)<(i:Int):=by omega
    have hd1:(i:Int)-(j:Int)=((i-j:Nat):Int):=by omega
    generalize hqq:m-i=q at hq HR
    generalize hpp:i-j=p at hd1
    have HQ:=Lib.hid hqq
    have HP:=Lib.hid hpp
    clear hqq hpp
    go_wp2_with (go_at_call 211;rw[←hsk];refine(swapRange_s L cap q m j fv R (hs.trans hsk.symm) S1.out (by omega) (by omega) (by omega)).mono ?_;rintro e' w2 ⟨rfl,d2,hW,hS⟩;have HW:=Lib.hid hW;have S2:Aside (SWK enc kk w0 blk off d2 w2):=hS;clear hW hS)
    go_roundw
    case rel=>exact⟨p,j,d2,by go_num,rfl,by have:=HP.out;omega,hj,by have:=HP.out;omega,hjb,HW.out.size.trans hsk,S2,fun d3 h=>HR.out d3 (by have:=Rot.left hgt him (by rw[HQ.out];exact HW.out) (by rw[HP.out];exact h);rw[HQ.out] at this;exact this)⟩
    case measure=>have:=HP.out;simp[intOf];omega
   ·have hlt:i<j:=by omega
    have hg1:¬(j:Int)<(i:Int):=by omega
    have hd1:(j:Int)-(i:Int)=((j-i:Nat):Int):=by omega
    have hd2:(m:Int)+(j:Int)=((m+j:Nat):Int):=by omega
    have hd3:((m+j:Nat):Int)-(i:Int)=((m+j-i:Nat):Int):=by omega
    generalize hqq:m-i=q at hq HR
    generalize hss:m+j-i=s at hd3
    generalize hmj:m+j=mj at hd2 hd3 HR hjb
    generalize hpp:j-i=p at hd1
    have HQ:=Lib.hid hqq
    have HP:=Lib.hid hpp
    have HS:=Lib.hid hss
    have HMJ:=Lib.hid hmj
    clear hqq hpp hss hmj
    go_wp2_with (go_at_call 211;rw[←hsk];refine(swapRange_s L cap q s i fv R (hs.trans hsk.symm) S1.out (by have:=HQ.out;have:=HS.out;omega) (by have:=HQ.out;have:=HS.out;omega) (by omega)).mono ?_;rintro e' w2 ⟨rfl,d2,hW,hS⟩;have HW:=Lib.hid hW;have S2:Aside (SWK enc kk w0 blk off d2 w2):=hS;clear hW hS)
    go_roundw
    case rel=>exact⟨i,p,d2,rfl,by go_num,hi,by have:=HP.out;omega,him,by have:=HP.out;have:=HMJ.out;omega,HW.out.size.trans hsk,S2,fun d3 h=>HR.out d3 (by have:=Rot.right hlt him (by rw[HQ.out,HS.out];exact HW.out) (by rw[HP.out];exact h);rw[HQ.out,HMJ.out] at this;exact this)⟩
    case measure=>have:=HP.out;simp[intOf];omega
end Vm
end
section
open Go.Shelf Go.RowKit Go.Lib Go.Sort Stab
namespace Vm
variable {α:Type} [Inhabited α]
theorem symMerge_s {P:Program} {kk:Nat} (L:LP P kk) {enc:α→List Value} {cf:α→α→Int} {key:α→Int} {r:α→α→Prop} (HLT:Hid (∀x y,decide (cf x y<0)=decide (key x<key y))) {g:Nat} {cb:Array Value} (eg:∀args w,(callFunc g args).run P w= .ok (.enter g args) w) {blk off:Nat} (cap:Nat) {d0:Array α} {w0:World} (hcmp:CmpLays P g cb enc kk cf blk off d0.size w0) (R:RowK enc kk w0 blk off d0):
  ∀(k a m b:Nat) (d:Array α) (w:World),b-a≤k→a<m→m<b→b≤d.size→d.size<1000000→d0.size=d.size→SWK enc kk w0 blk off d w→Srt key r d a m→Srt key r d m b→Stb key r d a b→
  Calls P 197 #[.slice (some ⟨blk,off,none⟩) d.size cap,.int .i64 a,.int .i64 m,.int .i64 b,.func (.func g) #[] cb] w fun e w'=>e= .returned (.tuple #[])∧∃d',Srt key r d' a b∧Mv d d' a b∧SWK enc kk w0 blk off d' w':=by
 have mixed:=L.mixed;have t0:=L.t0;have a0:=L.a0;have z0:=L.z0;have v0:=L.v0;have t3:=L.t3;have a3:=L.a3;have z3:=L.z3;have v3:=L.v3;have t4:=L.t4;have a4:=L.a4;have z4:=L.z4;have v4:=L.v4;have tu:=L.tu;have au:=L.au;have zu:=L.zu;have vu:=L.vu;have tl:=L.tl;have al:=L.al;have zl:=L.zl;have vl:=L.vl;have tc:=L.tc;have ac:=L.ac;have zc:=L.zc;have vc:=L.vc;have aE:=L.aE;have zE:=L.zE
 have HC:Aside _:=hcmp
 intro k
 induction k with
 |zero=>intro a m b d w h1 h2 h3;omega
 |succ k ih=>
  intro a m b d w hk ham hmb hbs hsz hs S hL hR hU
  have IH:=Lib.hid ih
  have HL:=Lib.hid hL
  have HR:=Lib.hid hR
  have HU:=Lib.hid hU
  have S0:Aside (SWK enc kk w0 blk off d w):=S
  clear ih hL hR hU S hcmp
  by_cases hm1:m=a+1
  ·have hma:(m:Int)-(a:Int)=1:=by omega
   have HMA:=Lib.hid hm1
   clear hm1
   have FG:=L.fme
   have esw:=L.esw
   have ero:=L.ero
   have eme:=L.eme
   have est:=L.est
   have eins:=L.eins
   go_enter FG,Tryz.ntmps197
   go_wp2_with fail
   go_loopg [10,11] (b-m) (fun gx vi vj wr=>∃i j:Nat,vi= .int .i64 i∧vj= .int .i64 j∧m≤i∧i≤j∧j≤b∧j-i≤gx∧Aside (SWK enc kk w0 blk off d wr)∧Hid ((∀q,m≤q→q<i→key d[q]! <key d[a]!)∧(∀q,j≤q→q<b→key d[a]! ≤key d[q]!)))
   case atStart=>exact⟨m,b,rfl,rfl,by omega,by omega,by omega,by omega,S0,fun q h1 h2=>by omega,fun q h1 h2=>by omega⟩
   case round=>
    clear S0
    obtain⟨i,j,rfl,rfl,hmi,hij,hjb,hgx,S1,HQ⟩:=hrel
    by_cases hlt:i<j
    ·have hltz:(i:Int)<(j:Int):=by omega
     have hh:((i:Int)+(j:Int))/2=(((i+j)/2:Nat):Int):=by omega
     generalize hhh:(i+j)/2=h at hh
     have h1:i≤h∧h<j:=by omega
     clear hhh
     rcases hv:decide (key d[h]! <key d[a]!)
     ·have hv1:=Lib.hid hv
      have eiN:((h:Int)).toNat=h:=by omega
      have piN:(0:Int)≤(h:Int):=by omega
      have biN:(h:Int)<(d.size:Int):=by omega
      have riN:IntKind.i64.wrap ((h:Int))=(h:Int):=by rw[IntKind.wrap_i64];omega
      have ejN:((a:Int)).toNat=a:=by omega
      have pjN:(0:Int)≤(a:Int):=by omega
      have bjN:(a:Int)<(d.size:Int):=by omega
      have rjN:IntKind.i64.wrap ((a:Int))=(a:Int):=by rw[IntKind.wrap_i64];omega
      obtain⟨x0,hx0⟩:∃zz,zz=d[h]! :=⟨_,rfl⟩
      obtain⟨y0,hy0⟩:∃zz,zz=d[a]! :=⟨_,rfl⟩
      have l1:=S1.out.ld R (by omega) P (h) (by omega)
      have l2:=S1.out.ld R (by omega) P (a) (by omega)
      rw[←hx0] at l1
      rw[←hy0] at l2
      have hc:=S1.out.cmp HC.out (by omega) x0 y0
      have hd:decide (cf x0 y0<0)=false:=by rw[hx0,hy0,HLT.out];exact hv
      have hd2:¬cf x0 y0<0:=by simpa using hd
      clear hx0 hy0
      go_wp2_with fail
      go_quiet_grown (first|(go_at_fn g;refine Calls.grown_of (hc _ _)))
      have S2:Aside (SWK enc kk w0 blk off d (grow (wr.drewN nq) osq)):=S1.out.grown nq osq
      clear l1 l2 hc S1 hd hd2
      generalize grow (wr.drewN nq) osq=w2 at S2 ⊢
      clear nq osq eiN ejN piN pjN biN bjN riN rjN
      clear hv
      go_wp2_with fail
      go_roundg (h-i)
      case measure=>omega
      case rel=>exact⟨i,h,rfl,rfl,hmi,h1.1,by omega,Nat.le_refl _,S2,HQ.out.1,fun q q1 q2=>by
       have hle:=HR.out.le (i:=h) (j:=q) (by omega) q1 q2
       have:=of_decide_eq_false hv1.out
       omega⟩
     ·have hv1:=Lib.hid hv
      have eiN:((h:Int)).toNat=h:=by omega
      have piN:(0:Int)≤(h:Int):=by omega
      have biN:(h:Int)<(d.size:Int):=by omega
      have riN:IntKind.i64.wrap ((h:Int))=(h:Int):=by rw[IntKind.wrap_i64];omega
      have ejN:((a:Int)).toNat=a:=by omega
      have pjN:(0:Int)≤(a:Int):=by omega
      have bjN:(a:Int)<(d.size:Int):=by omega
      have rjN:IntKind.i64.wrap ((a:Int))=(a:Int):=by rw[IntKind.wrap_i64];omega
      obtain⟨x0,hx0⟩:∃zz,zz=d[h]! :=⟨_,rfl⟩
      obtain⟨y0,hy0⟩:∃zz,zz=d[a]! :=⟨_,rfl⟩
      have l1:=S1.out.ld R (by omega) P (h) (by omega)
      have l2:=S1.out.ld R (by omega) P (a) (by omega)
      rw[←hx0] at l1
      rw[←hy0] at l2
      have hc:=S1.out.cmp HC.out (by omega) x0 y0
      have hd:decide (cf x0 y0<0)=true:=by rw[hx0,hy0,HLT.out];exact hv
      have hd2:cf x0 y0<0:=by simpa using hd
      clear hx0 hy0
      go_wp2_with fail
      go_quiet_grown (first|(go_at_fn g;refine Calls.grown_of (hc _ _)))
      have S2:Aside (SWK enc kk w0 blk off d (grow (wr.drewN nq) osq)):=S1.out.grown nq osq
      clear l1 l2 hc S1 hd hd2
      generalize grow (wr.drewN nq) osq=w2 at S2 ⊢
      clear nq osq eiN ejN piN pjN biN bjN riN rjN
      clear hv
      go_wp2_with fail
      go_roundg (j-(h+1))
      case measure=>omega
      case rel=>exact⟨h+1,j,by go_num,rfl,by omega,by omega,hjb,Nat.le_refl _,S2,fun q q1 q2=>by
       have hle:=HR.out.le (i:=q) (j:=h) q1 (by omega) (by omega)
       have:=of_decide_eq_true hv1.out
       omega,HQ.out.2⟩
    ·have hltz:¬(i:Int)<(j:Int):=by omega
     obtain rfl:j=i:=by omega
     obtain⟨i1,hi1⟩:∃q,j=q+1:=⟨j-1,by omega⟩
     have hi1z:(j:Int)-1=(i1:Int):=by omega
     go_wp2_with fail
     go_loopg [13] (i1-a) (fun gx vk wr2=>∃(q:Nat) (dk:Array α),vk= .int .i64 q∧a≤q∧q≤i1∧i1-q≤gx∧dk.size=d.size∧Aside (SWK enc kk w0 blk off dk wr2)∧Hid (Rot d dk a (a+1) (q+1)))
     case atStart=>exact⟨a,d,rfl,by omega,by have:=HMA.out;omega,Nat.le_refl _,rfl,S1,Rot.none_r d a (a+1)⟩
     case round=>
      clear S1
      obtain⟨q,dk,rfl,haq,hqi,hgx2,hsk,S3,HRot⟩:=hrel
      by_cases hql:q<i1
      ·have hqz:(q:Int)<(i1:Int):=by omega
       have eiN:((q:Int)).toNat=q:=by omega
       have piN:(0:Int)≤(q:Int):=by omega
       have biN:(q:Int)<(d.size:Int):=by omega
       have riN:IntKind.i64.wrap ((q:Int))=(q:Int):=by rw[IntKind.wrap_i64];omega
       have ejN:((q:Int)+1).toNat=q+1:=by omega
       have pjN:(0:Int)≤(q:Int)+1:=by omega
       have bjN:(q:Int)+1<(d.size:Int):=by omega
       have rjN:IntKind.i64.wrap ((q:Int)+1)=(q:Int)+1:=by rw[IntKind.wrap_i64];omega
       have S4:Aside (SWK enc kk w0 blk off (swp dk (q) (q+1)) ((wr.drew.setCells blk (off+(q)*kk) (enc dk[q+1]!)).setCells blk (off+(q+1)*kk) (enc dk[q]!))):=S3.out.swapped R (q) (q+1) (by omega) (by omega)
       have l1:=S3.out.ld1 R (by omega) P (q) (by omega)
       have l2:=S3.out.ld1 R (by omega) P (q+1) (by omega)
       have s1:=S3.out.st1 R (by omega) P (q) (by omega) dk[q+1]!
       have s2:=S3.out.st2 R (by omega) P (q) (q+1) (by omega) (by omega) dk[q+1]! dk[q]!
       have n1:(enc dk[q]!).length=kk:=R.hk _
       have n2:(enc dk[q+1]!).length=kk:=R.hk _
       generalize enc dk[q]! =cI at S4 l1 s2 n1
       generalize enc dk[q+1]! =cJ at S4 l2 s1 s2 n2
       clear S3
       go_wp2_with fail
       go_big_region_o
       clear l1 l2 s1 s2 n1 n2
       generalize(wr.drew.setCells blk (off+(q)*kk) cJ).setCells blk (off+(q+1)*kk) cI=w4 at S4 ⊢
       clear eiN ejN piN pjN biN bjN riN rjN
       go_wp2_with fail
       go_roundg (i1-(q+1))
       case measure=>omega
       case rel=>exact⟨q+1,swp dk q (q+1),by go_num,by omega,by omega,Nat.le_refl _,by rw[Stab.swp_size];exact hsk,S4,HRot.out.up haq (by omega)⟩
      ·have hqz:¬(q:Int)<(i1:Int):=by omega
       obtain rfl:q=i1:=by omega
       go_wp2_with fail
       (try simp only[Exit.inBlock,Exit.then])
       refine bodyPost_ret (results_none rfl _ _ _) rfl ?_
       have hm:=HMA.out
       subst hm
       have C:Cutting key r d dk a a (a+1) (q+1) b:=⟨HRot.out,Nat.le_refl _,by omega,by omega,by omega,HL.out,HR.out,HU.out,fun x y x1 x2 y1 y2=>by
        have:x=a:=by omega
        subst this;exact HQ.out.1 y y1 (by omega)⟩
       exact⟨rfl,dk,rot_sorted C (fun x y x1 x2=>by omega) (fun x y x1 x2=>by omega) (fun x y x1 x2 y1 y2=>by
        have:x=a:=by omega
        subst this;exact HQ.out.2 y (by omega) y2),(HRot.out.mv (by omega) (by omega)).mono (Nat.le_refl _) (by omega),S3.out⟩
  ·have hma:(((m:Int)-(a:Int))==1)=false:=by simp only[beq_eq_false_iff_ne,ne_eq];omega
   by_cases hb1:b=m+1
   ·have hbm:(b:Int)-(m:Int)=1:=by omega
    have HBM:=Lib.hid hb1
    clear hb1
    have FG:=L.fme
    have esw:=L.esw
    have ero:=L.ero
    have eme:=L.eme
    have est:=L.est
    have eins:=L.eins
    go_enter FG,Tryz.ntmps197
    go_wp2_with fail
    go_loopg [14,15] (m-a) (fun gx vi vj wr=>∃i j:Nat,vi= .int .i64 i∧vj= .int .i64 j∧a≤i∧i≤j∧j≤m∧j-i≤gx∧Aside (SWK enc kk w0 blk off d wr)∧Hid ((∀q,a≤q→q<i→key d[q]! ≤key d[m]!)∧(∀q,j≤q→q<m→key d[m]! <key d[q]!)))
    case atStart=>exact⟨a,m,rfl,rfl,by omega,by omega,by omega,by omega,S0,fun q h1 h2=>by omega,fun q h1 h2=>by omega⟩
    case round=>
     clear S0
     obtain⟨i,j,rfl,rfl,hmi,hij,hjb,hgx,S1,HQ⟩:=hrel
     by_cases hlt:i<j
     ·have hltz:(i:Int)<(j:Int):=by omega
      have hh:((i:Int)+(j:Int))/2=(((i+j)/2:Nat):Int):=by omega
      generalize hhh:(i+j)/2=h at hh
      have h1:i≤h∧h<j:=by omega
      clear hhh
      rcases hv:decide (key d[m]! <key d[h]!)
      ·have hv1:=Lib.hid hv
       have eiN:((m:Int)).toNat=m:=by omega
       have piN:(0:Int)≤(m:Int):=by omega
       have biN:(m:Int)<(d.size:Int):=by omega
       have riN:IntKind.i64.wrap ((m:Int))=(m:Int):=by rw[IntKind.wrap_i64];omega
       have ejN:((h:Int)).toNat=h:=by omega
       have pjN:(0:Int)≤(h:Int):=by omega
       have bjN:(h:Int)<(d.size:Int):=by omega
       have rjN:IntKind.i64.wrap ((h:Int))=(h:Int):=by rw[IntKind.wrap_i64];omega
       obtain⟨x0,hx0⟩:∃zz,zz=d[m]! :=⟨_,rfl⟩
       obtain⟨y0,hy0⟩:∃zz,zz=d[h]! :=⟨_,rfl⟩
       have l1:=S1.out.ld R (by omega) P (m) (by omega)
       have l2:=S1.out.ld R (by omega) P (h) (by omega)
       rw[←hx0] at l1
       rw[←hy0] at l2
       have hc:=S1.out.cmp HC.out (by omega) x0 y0
       have hd:decide (cf x0 y0<0)=false:=by rw[hx0,hy0,HLT.out];exact hv
       have hd2:¬cf x0 y0<0:=by simpa using hd
       clear hx0 hy0
       go_wp2_with fail
       go_quiet_grown (first|(go_at_fn g;refine Calls.grown_of (hc _ _)))
       have S2:Aside (SWK enc kk w0 blk off d (grow (wr.drewN nq) osq)):=S1.out.grown nq osq
       clear l1 l2 hc S1 hd hd2
       generalize grow (wr.drewN nq) osq=w2 at S2 ⊢
       clear nq osq eiN ejN piN pjN biN bjN riN rjN
       clear hv
       go_wp2_with fail
       go_roundg (j-(h+1))
       case measure=>omega
       case rel=>exact⟨h+1,j,by go_num,rfl,by omega,by omega,hjb,Nat.le_refl _,S2,fun q q1 q2=>by
        have hle:=HL.out.le (i:=q) (j:=h) q1 (by omega) (by omega)
        have:=of_decide_eq_false hv1.out
        omega,HQ.out.2⟩
      ·have hv1:=Lib.hid hv
       have eiN:((m:Int)).toNat=m:=by omega
       have piN:(0:Int)≤(m:Int):=by omega
       have biN:(m:Int)<(d.size:Int):=by omega
       have riN:IntKind.i64.wrap ((m:Int))=(m:Int):=by rw[IntKind.wrap_i64];omega
       have ejN:((h:Int)).toNat=h:=by omega
       have pjN:(0:Int)≤(h:Int):=by omega
       have bjN:(h:Int)<(d.size:Int):=by omega
       have rjN:IntKind.i64.wrap ((h:Int))=(h:Int):=by rw[IntKind.wrap_i64];omega
       obtain⟨x0,hx0⟩:∃zz,zz=d[m]! :=⟨_,rfl⟩
       obtain⟨y0,hy0⟩:∃zz,zz=d[h]! :=⟨_,rfl⟩
       have l1:=S1.out.ld R (by omega) P (m) (by omega)
       have l2:=S1.out.ld R (by omega) P (h) (by omega)
       rw[←hx0] at l1
       rw[←hy0] at l2
       have hc:=S1.out.cmp HC.out (by omega) x0 y0
       have hd:decide (cf x0 y0<0)=true:=by rw[hx0,hy0,HLT.out];exact hv
       have hd2:cf x0 y0<0:=by simpa using hd
       clear hx0 hy0
       go_wp2_with fail
       go_quiet_grown (first|(go_at_fn g;refine Calls.grown_of (hc _ _)))
       have S2:Aside (SWK enc kk w0 blk off d (grow (wr.drewN nq) osq)):=S1.out.grown nq osq
       clear l1 l2 hc S1 hd hd2
       generalize grow (wr.drewN nq) osq=w2 at S2 ⊢
       clear nq osq eiN ejN piN pjN biN bjN riN rjN
       clear hv
       go_wp2_with fail
       go_roundg (h-i)
       case measure=>omega
       case rel=>exact⟨i,h,rfl,rfl,hmi,h1.1,by omega,Nat.le_refl _,S2,HQ.out.1,fun q q1 q2=>by
        have hle:=HL.out.le (i:=h) (j:=q) (by omega) q1 q2
        have:=of_decide_eq_true hv1.out
        omega⟩
     ·have hltz:¬(i:Int)<(j:Int):=by omega
      obtain rfl:j=i:=by omega
      go_wp2_with fail
      go_loopg [17] (m-j) (fun gx vk wr2=>∃(q:Nat) (dk:Array α),vk= .int .i64 q∧j≤q∧q≤m∧q-j≤gx∧dk.size=d.size∧Aside (SWK enc kk w0 blk off dk wr2)∧Hid (Rot d dk q m (m+1)))
      case atStart=>exact⟨m,d,rfl,by omega,by omega,Nat.le_refl _,rfl,S1,Rot.none_l d m (m+1)⟩
      case round=>
       clear S1
       obtain⟨q,dk,rfl,haq,hqi,hgx2,hsk,S3,HRot⟩:=hrel
       by_cases hql:j<q
       ·have hqz:(j:Int)<(q:Int):=by omega
        obtain⟨q1,rfl⟩:∃t,q=t+1:=⟨q-1,by omega⟩
        have hqz2:(j:Int)<(q1:Int)+1:=by omega
        have hqd:decide ((q1:Int)+1>(j:Int))=true:=decide_eq_true (by omega)
        have eiN:((q1:Int)+1).toNat=q1+1:=by omega
        have piN:(0:Int)≤(q1:Int)+1:=by omega
        have biN:(q1:Int)+1<(d.size:Int):=by omega
        have riN:IntKind.i64.wrap ((q1:Int)+1)=(q1:Int)+1:=by rw[IntKind.wrap_i64];omega
        have ejN:((q1:Int)).toNat=q1:=by omega
        have pjN:(0:Int)≤(q1:Int):=by omega
        have bjN:(q1:Int)<(d.size:Int):=by omega
        have rjN:IntKind.i64.wrap ((q1:Int))=(q1:Int):=by rw[IntKind.wrap_i64];omega
        have S4:Aside (SWK enc kk w0 blk off (swp dk (q1+1) (q1)) ((wr.drew.setCells blk (off+(q1+1)*kk) (enc dk[q1]!)).setCells blk (off+(q1)*kk) (enc dk[q1+1]!))):=S3.out.swapped R (q1+1) (q1) (by omega) (by omega)
        have l1:=S3.out.ld1 R (by omega) P (q1+1) (by omega)
        have l2:=S3.out.ld1 R (by omega) P (q1) (by omega)
        have s1:=S3.out.st1 R (by omega) P (q1+1) (by omega) dk[q1]!
        have s2:=S3.out.st2 R (by omega) P (q1+1) (q1) (by omega) (by omega) dk[q1]! dk[q1+1]!
        have n1:(enc dk[q1+1]!).length=kk:=R.hk _
        have n2:(enc dk[q1]!).length=kk:=R.hk _
        generalize enc dk[q1+1]! =cI at S4 l1 s2 n1
        generalize enc dk[q1]! =cJ at S4 l2 s1 s2 n2
        clear S3
        go_wp2_with fail
        go_big_region_o
        clear l1 l2 s1 s2 n1 n2
        generalize(wr.drew.setCells blk (off+(q1+1)*kk) cJ).setCells blk (off+(q1)*kk) cI=w4 at S4 ⊢
        clear eiN ejN piN pjN biN bjN riN rjN
        go_wp2_with fail
        go_roundg (q1-j)
        case measure=>omega
        case rel=>exact⟨q1,swp dk (q1+1) q1,by first|rfl|go_num,by omega,by omega,Nat.le_refl _,by rw[Stab.swp_size];exact hsk,S4,HRot.out.down (by omega) (by omega)⟩
       ·have hqz:¬(j:Int)<(q:Int):=by omega
        obtain rfl:q=j:=by omega
        go_wp2_with fail
        (try simp only[Exit.inBlock,Exit.then])
        refine bodyPost_ret (results_none rfl _ _ _) rfl ?_
        have hm:=HBM.out
        subst hm
        have C:Cutting key r d dk a q m (m+1) (m+1):=⟨HRot.out,by omega,by omega,by omega,by omega,HL.out,HR.out,HU.out,fun x y x1 x2 y1 y2=>by
         have:y=m:=by omega
         subst this;exact HQ.out.2 x x1 x2⟩
        exact⟨rfl,dk,rot_sorted C (fun x y x1 x2 y1 y2=>by omega) (fun x y x1 x2 y1 y2=>by
         have:y=m:=by omega
         subst this;exact HQ.out.1 x x1 x2) (fun x y x1 x2 y1 y2=>by omega),(HRot.out.mv (by omega) (by omega)).mono (by omega) (by omega),S3.out⟩
   ·have hbm:(((b:Int)-(m:Int))==1)=false:=by simp only[beq_eq_false_iff_ne,ne_eq];omega
    have hmd:((a:Int)+(b:Int))/2=(((a+b)/2:Nat):Int):=by omega
    generalize hmid:(a+b)/2=mid at hmd
    have hnn:(mid:Int)+(m:Int)=((mid+m:Nat):Int):=by omega
    generalize hnm:mid+m=nn at hnn
    have hpp:(nn:Int)-1=((nn-1:Nat):Int):=by omega
    generalize hpm:nn-1=p at hpp
    obtain⟨s0,r0,hst,hF⟩:∃s0 r0:Nat,(mid<m∧(nn:Int)-(b:Int)=(s0:Int)∧r0=mid∨¬mid<m∧s0=a∧r0=m)∧s0≤r0∧r0≤m∧a≤s0∧∀s e,s0≤s→s≤r0→e+s=nn→(s=s0→e=b∨s=a)∧(s=r0→e=m∨s=m)∧m≤e∧e≤b∧a≤s∧s≤m∧mid=s+(e-m):=by
     by_cases hmm:mid<m
     ·refine⟨nn-b,mid,.inl ⟨hmm,by omega,rfl⟩,by omega,by omega,by omega,fun s e h1 h2 h3=>⟨fun _=> .inl (by omega),fun _=> .inl (by omega),by omega,by omega,by omega,by omega,by omega⟩⟩
     ·refine⟨a,m,.inr ⟨hmm,rfl,rfl⟩,by omega,by omega,by omega,fun s e h1 h2 h3=>⟨fun h=> .inr h,fun h=> .inr h,by omega,by omega,by omega,by omega,by omega⟩⟩
    have HF:=Lib.hid hF
    have HP:Hid (p+1=nn∧mid+m=nn):=by constructor<;>omega
    have hmidb:a<mid∧mid<b∧nn<2000000:=by omega
    clear hmid hnm hpm hF
    have FG:=L.fme
    have esw:=L.esw
    have ero:=L.ero
    have eme:=L.eme
    have est:=L.est
    have eins:=L.eins
    go_enter FG,Tryz.ntmps197
    go_upto_if 140 with fail
    go_cut [20,21] from 138 (fun v3 v4 wx=>v3= .int .i64 (s0:Nat)∧v4= .int .i64 (r0:Nat)∧wx=w)
    case first=>
     rcases hst with⟨h1,h2,h3⟩|⟨h1,h2,h3⟩
     ·have h4:(mid:Int)<(m:Int):=by omega
      go_wp2_with fail
      go_meet
      exact⟨rfl,by rw[h3],rfl⟩
     ·have h4:¬(mid:Int)<(m:Int):=by omega
      go_wp2_with fail
      go_meet
      exact⟨by rw[h2],by rw[h3],rfl⟩
    case rest=>
     obtain⟨rfl,rfl,hwc⟩:=hcut
     subst wc
     clear hst
     go_wp2_with fail
     go_loopg [20,21] (r0-s0) (fun gx vi vj wr=>∃i j:Nat,vi= .int .i64 i∧vj= .int .i64 j∧s0≤i∧i≤j∧j≤r0∧j-i≤gx∧Aside (SWK enc kk w0 blk off d wr)∧Hid ((∀q,s0≤q→q<i→key d[q]! ≤key d[p-q]!)∧(∀q,j≤q→q<r0→key d[p-q]! <key d[q]!)))
     case atStart=>exact⟨s0,r0,rfl,rfl,by omega,HF.out.1,by omega,by omega,S0,fun q h1 h2=>by omega,fun q h1 h2=>by omega⟩
     case round=>
      clear S0
      obtain⟨i,j,rfl,rfl,hmi,hij,hjb,hgx,S1,HQ⟩:=hrel
      by_cases hlt:i<j
      ·have hltz:(i:Int)<(j:Int):=by omega
       have hh:((i:Int)+(j:Int))/2=(((i+j)/2:Nat):Int):=by omega
       generalize hhh:(i+j)/2=h at hh
       have h1:i≤h∧h<j:=by omega
       have hin:∀c,s0≤c→c<r0→a≤c∧c<m∧m≤p-c∧p-c<b∧c≤p:=fun c c1 c2=>by
        have k1:=HF.out.2.2.2 c (nn-c) c1 (by omega) (by have:=HP.out;have:=HF.out;omega)
        have k2:=HF.out.2.2.2 (c+1) (nn-(c+1)) (by omega) (by omega) (by have:=HP.out;have:=HF.out;omega)
        have:=HP.out
        have:=HF.out
        omega
       have hin1:=hin h (by omega) (by omega)
       have HIN:=Lib.hid hin
       clear hhh hin
       rcases hv:decide (key d[p-h]! <key d[h]!)
       ·have hv1:=Lib.hid hv
        have eiN:((p:Int)-(h:Int)).toNat=p-h:=by omega
        have piN:(0:Int)≤(p:Int)-(h:Int):=by omega
        have biN:(p:Int)-(h:Int)<(d.size:Int):=by omega
        have riN:IntKind.i64.wrap ((p:Int)-(h:Int))=(p:Int)-(h:Int):=by rw[IntKind.wrap_i64];omega
        have ejN:((h:Int)).toNat=h:=by omega
        have pjN:(0:Int)≤(h:Int):=by omega
        have bjN:(h:Int)<(d.size:Int):=by omega
        have rjN:IntKind.i64.wrap ((h:Int))=(h:Int):=by rw[IntKind.wrap_i64];omega
        obtain⟨x0,hx0⟩:∃zz,zz=d[p-h]! :=⟨_,rfl⟩
        obtain⟨y0,hy0⟩:∃zz,zz=d[h]! :=⟨_,rfl⟩
        have l1:=S1.out.ld R (by omega) P (p-h) (by omega)
        have l2:=S1.out.ld R (by omega) P (h) (by omega)
        rw[←hx0] at l1
        rw[←hy0] at l2
        have hc:=S1.out.cmp HC.out (by omega) x0 y0
        have hd:decide (cf x0 y0<0)=false:=by rw[hx0,hy0,HLT.out];exact hv
        have hd2:¬cf x0 y0<0:=by simpa using hd
        clear hx0 hy0
        go_wp2_with fail
        go_quiet_grown (first|(go_at_fn g;refine Calls.grown_of (hc _ _)))
        have S2:Aside (SWK enc kk w0 blk off d (grow (wr.drewN nq) osq)):=S1.out.grown nq osq
        clear l1 l2 hc S1 hd hd2
        generalize grow (wr.drewN nq) osq=w2 at S2 ⊢
        clear nq osq eiN ejN piN pjN biN bjN riN rjN
        clear hv
        go_wp2_with fail
        go_roundg (j-(h+1))
        case measure=>omega
        case rel=>exact⟨h+1,j,by go_num,rfl,by omega,by omega,hjb,Nat.le_refl _,S2,fun q q1 q2=>by
         have n1:=HIN.out q q1 (by omega)
         have l1:=HL.out.le (i:=q) (j:=h) (by omega) (by omega) (by omega)
         have l2:=HR.out.le (i:=p-h) (j:=p-q) (by omega) (by omega) (by omega)
         have:=of_decide_eq_false hv1.out
         omega,HQ.out.2⟩
       ·have hv1:=Lib.hid hv
        have eiN:((p:Int)-(h:Int)).toNat=p-h:=by omega
        have piN:(0:Int)≤(p:Int)-(h:Int):=by omega
        have biN:(p:Int)-(h:Int)<(d.size:Int):=by omega
        have riN:IntKind.i64.wrap ((p:Int)-(h:Int))=(p:Int)-(h:Int):=by rw[IntKind.wrap_i64];omega
        have ejN:((h:Int)).toNat=h:=by omega
        have pjN:(0:Int)≤(h:Int):=by omega
        have bjN:(h:Int)<(d.size:Int):=by omega
        have rjN:IntKind.i64.wrap ((h:Int))=(h:Int):=by rw[IntKind.wrap_i64];omega
        obtain⟨x0,hx0⟩:∃zz,zz=d[p-h]! :=⟨_,rfl⟩
        obtain⟨y0,hy0⟩:∃zz,zz=d[h]! :=⟨_,rfl⟩
        have l1:=S1.out.ld R (by omega) P (p-h) (by omega)
        have l2:=S1.out.ld R (by omega) P (h) (by omega)
        rw[←hx0] at l1
        rw[←hy0] at l2
        have hc:=S1.out.cmp HC.out (by omega) x0 y0
        have hd:decide (cf x0 y0<0)=true:=by rw[hx0,hy0,HLT.out];exact hv
        have hd2:cf x0 y0<0:=by simpa using hd
        clear hx0 hy0
        go_wp2_with fail
        go_quiet_grown (first|(go_at_fn g;refine Calls.grown_of (hc _ _)))
        have S2:Aside (SWK enc kk w0 blk off d (grow (wr.drewN nq) osq)):=S1.out.grown nq osq
        clear l1 l2 hc S1 hd hd2
        generalize grow (wr.drewN nq) osq=w2 at S2 ⊢
        clear nq osq eiN ejN piN pjN biN bjN riN rjN
        clear hv
        go_wp2_with fail
        go_roundg (h-i)
        case measure=>omega
        case rel=>exact⟨i,h,rfl,rfl,hmi,h1.1,by omega,Nat.le_refl _,S2,HQ.out.1,fun q q1 q2=>by
         have n1:=HIN.out q (by omega) q2
         have l1:=HL.out.le (i:=h) (j:=q) (by omega) (by omega) (by omega)
         have l2:=HR.out.le (i:=p-q) (j:=p-h) (by omega) (by omega) (by omega)
         have:=of_decide_eq_true hv1.out
         omega⟩
      ·have hltz:¬(i:Int)<(j:Int):=by omega
       obtain rfl:j=i:=by omega
       have hez:(nn:Int)-(j:Int)=((nn-j:Nat):Int):=by have:=HP.out;have:=HF.out;omega
       have hej:(nn-j)+j=nn:=by have:=HP.out;have:=HF.out;omega
       generalize hee:nn-j=e at hez hej
       have k1:=HF.out.2.2.2 j e hmi hjb hej
       have hp1:=HP.out
       have hf1:=HF.out.2.1
       have HH1:Hid (∀x y,j≤x→x<m→m≤y→y<e→key d[y]! <key d[x]!):=fun x y x1 x2 y1 y2=>by
        have hjr:j<r0:=by
         rcases Nat.lt_or_ge j r0 with h|h
         ·exact h
         ·have:=k1.2.1 (by omega);omega
        have t1:=HQ.out.2 j (Nat.le_refl _) hjr
        have l1:=HL.out.le (i:=j) (j:=x) (by omega) x1 x2
        have l2:=HR.out.le (i:=y) (j:=p-j) y1 (by omega) (by omega)
        omega
       have HH2:Hid (∀x y,a≤x→x<j→e≤y→y<b→key d[x]! ≤key d[y]!):=fun x y x1 x2 y1 y2=>by
        have hjs:s0<j:=by
         rcases Nat.lt_or_ge s0 j with h|h
         ·exact h
         ·have:=k1.1 (by omega);omega
        have t1:=HQ.out.1 (j-1) (by omega) (by omega)
        have l1:=HL.out.le (i:=x) (j:=j-1) x1 (by omega) (by omega)
        have l2:=HR.out.le (i:=p-(j-1)) (j:=y) (by omega) (by omega) y2
        omega
       have HCUT:Hid (∀d1,Rot d d1 j m e→Cutting key r d d1 a j m e b):=fun d1 hr=>⟨hr,by omega,by omega,by omega,by omega,HL.out,HR.out,HU.out,HH1.out⟩
       have HK:=Lib.hid k1
       have hc0:=k1.2.2.2.2.2.2
       have hbd:m≤e∧e≤b∧a≤j∧j≤m∧e<2000000:=by omega
       have HMID:=Lib.hid hc0
       clear k1 hp1 hf1 hee hc0 hej
       go_upto_region 39 with fail
       generalize htb:(decide (j<m)&&decide (m<e))=tb
       go_cut [185] from 178 (fun t wx=>t= .bool tb∧wx=wr)
       case first=>
        rcases e1:decide (j<m)
        ·go_wp2_with fail
         go_meet
         exact⟨by rw[←htb,e1];rfl,rfl⟩
        ·rcases e2:decide (m<e)
         all_goals
          go_wp2_with fail
          go_meet
          exact⟨by rw[←htb,e1,e2];rfl,rfl⟩
       case rest=>
        obtain⟨rfl,hwc⟩:=hcut
        subst wc
        go_upto_if 185 with fail
        go_cut [24] from 186 (fun t wx=>t= .int .i64 (e:Nat)∧∃d1,Hid (Rot d d1 j m e)∧Aside (SWK enc kk w0 blk off d1 wx)∧d1.size=d.size)
        case first=>
         rcases tb
         ·have hrot:Rot d d j m e:=by
            rw[Bool.and_eq_false_iff,decide_eq_false_iff_not,decide_eq_false_iff_not] at htb
            rcases htb with h|h
            ·have:j=m:=by omega
             rw[this];exact Rot.none_l d m e
            ·have:e=m:=by omega
             rw[this];exact Rot.none_r d j m
          have HROT:=Lib.hid hrot
          clear hrot
          go_wp2_with fail
          go_meet
          exact⟨rfl,d,HROT.out,S1,rfl⟩
         ·rw[Bool.and_eq_true,decide_eq_true_eq,decide_eq_true_eq] at htb
          go_wp2_with (go_at_call 206;refine(rotate_s L cap j m e (.func (.func g) #[] cb) R hs S1.out htb.1 htb.2 (by omega) hsz).mono ?_;rintro e' w2 ⟨rfl,d1,hW,hS⟩;have HW:=Lib.hid hW;have S2:Aside (SWK enc kk w0 blk off d1 w2):=hS;clear hW hS)
          go_meet
          exact⟨rfl,d1,HW.out,S2,HW.out.size⟩
        case rest=>
         obtain⟨rfl,d1,HROT,S2,hs1⟩:=hcut
         clear S1 htb
         have HC1:=Lib.hid (HCUT.out d1 HROT.out)
         clear HCUT HQ
         go_upto_region 41 with fail
         generalize htl:(decide (a<j)&&decide (j<mid))=tl
         go_cut [199] from 192 (fun t wx=>t= .bool tl∧wx=wc)
         case first=>
          rcases e1:decide (a<j)
          ·go_wp2_with fail
           go_meet
           exact⟨by rw[←htl,e1];rfl,rfl⟩
          ·rcases e2:decide (j<mid)
           all_goals
            go_wp2_with fail
            go_meet
            exact⟨by rw[←htl,e1,e2];rfl,rfl⟩
         case rest=>
          obtain⟨rfl,hwc⟩:=hcut
          rename_i wcc
          subst hwc
          go_upto_if 199 with fail
          go_cut [18] from 200 (fun t wx=>t= .int .i64 (mid:Nat)∧∃d2,Hid (Srt key r d2 a mid∧Mv d1 d2 a mid)∧Aside (SWK enc kk w0 blk off d2 wx)∧d2.size=d.size)
          case first=>
           rcases tl
           ·rw[Bool.and_eq_false_iff,decide_eq_false_iff_not,decide_eq_false_iff_not] at htl
            have hn:Srt key r d1 a mid:=by rw[HMID.out];exact left_none HC1.out (by rw[←HMID.out];omega)
            have HN:=Lib.hid hn
            clear hn
            go_wp2_with fail
            go_meet
            exact⟨rfl,d1,⟨HN.out,Mv.refl _ _ _⟩,S2,hs1⟩
           ·rw[Bool.and_eq_true,decide_eq_true_eq,decide_eq_true_eq] at htl
            have hpre:=left_pre HC1.out
            rw[←HMID.out] at hpre
            have HPRE:=Lib.hid hpre
            clear hpre
            go_wp2_with (go_at_call 197;rw[←hs1];refine(IH.out a j mid d1 _ (by omega) htl.1 htl.2 (by omega) (by omega) (by omega) S2.out HPRE.out.1 HPRE.out.2.1 HPRE.out.2.2).mono ?_;rintro e' w2 ⟨rfl,d2,hA,hB,hS⟩;have HW:=Lib.hid (And.intro hA hB);have S3:Aside (SWK enc kk w0 blk off d2 w2):=hS;clear hA hB hS)
            go_meet
            exact⟨rfl,d2,HW.out,S3,HW.out.2.size.trans hs1⟩
          case rest=>
           obtain⟨rfl,d2,HD2,S3,hs2⟩:=hcut
           clear S2 htl
           go_upto_region 43 with fail
           generalize htr:(decide (mid<e)&&decide (e<b))=tr
           go_cut [213] from 206 (fun t wx=>t= .bool tr∧wx=wc)
           case first=>
            rcases e1:decide (mid<e)
            ·go_wp2_with fail
             go_meet
             exact⟨by rw[←htr,e1];rfl,rfl⟩
            ·rcases e2:decide (e<b)
             all_goals
              go_wp2_with fail
              go_meet
              exact⟨by rw[←htr,e1,e2];rfl,rfl⟩
           case rest=>
            obtain⟨rfl,hwc⟩:=hcut
            subst hwc
            have HFIN:Hid (∀d3,Mv d2 d3 mid b→Srt key r d3 mid b→Srt key r d3 a b∧Mv d d3 a b):=fun d3 h1 h2=>rot_done HC1.out HH2.out HMID.out HD2.out.2 HD2.out.1 h1 h2
            rcases tr
            ·rw[Bool.and_eq_false_iff,decide_eq_false_iff_not,decide_eq_false_iff_not] at htr
             have hn:Srt key r d2 mid b:=by rw[HMID.out];exact right_none HC1.out (by rw[←HMID.out];exact HD2.out.2) (by rw[←HMID.out];omega)
             have HN:=Lib.hid hn
             clear hn
             go_wp2_with fail
             go_end0
             exact⟨rfl,d2,(HFIN.out d2 (Mv.refl _ _ _) HN.out).1,(HFIN.out d2 (Mv.refl _ _ _) HN.out).2,S3.out⟩
            ·rw[Bool.and_eq_true,decide_eq_true_eq,decide_eq_true_eq] at htr
             have hpre:=right_pre HC1.out (d2:=d2) (by rw[←HMID.out];exact HD2.out.2)
             rw[←HMID.out] at hpre
             have HPRE:=Lib.hid hpre
             clear hpre
             go_wp2_with (go_at_call 197;rw[←hs2];refine(IH.out mid e b d2 _ (by omega) htr.1 htr.2 (by omega) (by omega) (by omega) S3.out HPRE.out.1 HPRE.out.2.1 HPRE.out.2.2).mono ?_;rintro e' w2 ⟨rfl,d3,hA,hB,hS⟩;have HW:=Lib.hid (And.intro hA hB);have S4:Aside (SWK enc kk w0 blk off d3 w2):=hS;clear hA hB hS)
             go_end0
             exact⟨rfl,d3,(HFIN.out d3 HW.out.2 HW.out.1).1,(HFIN.out d3 HW.out.2 HW.out.1).2,S4.out⟩
end Vm
end
section
open Go.Sort
namespace Stab
variable {α:Type} {key:α→Int} {r:α→α→Prop} [Inhabited α]
def Ins (key:α→Int) (r:α→α→Prop) (d:Array α) (a:Nat):Prop:=a%20=0∧∀s,s%20=0→s+20≤a→Srt key r d s (s+20)
def Runs (key:α→Int) (r:α→α→Prop) (B:Nat) (d:Array α) (n:Nat):Prop:=∀s,s%B=0→s<n→Srt key r d s (min (s+B) n)
def Two (key:α→Int) (r:α→α→Prop) (B:Nat) (d:Array α) (a n:Nat):Prop:=
 a%(2*B)=0∧(∀s,s%(2*B)=0→s+2*B≤a→Srt key r d s (s+2*B))∧∀s,s%B=0→a≤s→s<n→Srt key r d s (min (s+B) n)
theorem Ins.start (d:Array α):Ins key r d 0:=⟨rfl,fun s _ h=>by omega⟩
theorem Ins.step {d d':Array α} {a:Nat} (h:Ins key r d a) (hs:Srt key r d' a (a+20)) (hm:Mv d d' a (a+20)):Ins key r d' (a+20):=by
 obtain⟨h1,h2⟩:=h
 refine⟨by omega,fun s s1 s2=> ?_⟩
 by_cases e:s=a
 ·rw[e];exact hs
 ·exact srt_same (h2 s s1 (by omega)) fun i i1 i2=>hm.out i (by omega)
theorem Ins.runs {d d':Array α} {a n:Nat} (h:Ins key r d a) (han:a≤n) (hn:n<a+20) (hs:Srt key r d' a n) (hm:Mv d d' a n):Runs key r 20 d' n:=by
 obtain⟨h1,h2⟩:=h
 intro s s1 s2
 by_cases e:s+20≤a
 ·have:min (s+20) n=s+20:=by omega
  rw[this]
  exact srt_same (h2 s s1 e) fun i i1 i2=>hm.out i (by omega)
 ·have h3:s=a:=by omega
  have h4:min (s+20) n=n:=by omega
  rw[h4,h3];exact hs
variable {B n a:Nat} {d d':Array α}
theorem Runs.two (h:Runs key r B d n):Two key r B d 0 n:=⟨Nat.zero_mod _,fun s _ h=>by
 rcases Nat.eq_zero_or_pos B with hb|hb
 ·subst hb;exact srt_one d (by omega)
 ·omega,fun s s1 _ s2=>h s s1 s2⟩
theorem Runs.done (h:Runs key r B d n) (hn:n≤B):Srt key r d 0 n:=by
 rcases Nat.eq_zero_or_pos n with h0|h0
 ·subst h0;exact srt_one d (by omega)
 ·have:=h 0 (Nat.zero_mod _) h0
  rw[Nat.zero_add,Nat.min_eq_right hn] at this
  exact this
theorem Two.pre (h:Two key r B d a n) (hB:B=20∨B=40) (hn:a+2*B≤n):Srt key r d a (a+B)∧Srt key r d (a+B) (a+2*B):=by
 obtain⟨h1,-,h3⟩:=h
 rcases hB with rfl|rfl
 ·have p1:=h3 a (by omega) (by omega) (by omega)
  have p2:=h3 (a+20) (by omega) (by omega) (by omega)
  rw[Nat.min_eq_left (by omega)] at p1 p2
  exact⟨p1,p2⟩
 ·have p1:=h3 a (by omega) (by omega) (by omega)
  have p2:=h3 (a+40) (by omega) (by omega) (by omega)
  rw[Nat.min_eq_left (by omega)] at p1 p2
  exact⟨p1,p2⟩
theorem Two.step (h:Two key r B d a n) (hB:B=20∨B=40) (hs:Srt key r d' a (a+2*B)) (hm:Mv d d' a (a+2*B)):Two key r B d' (a+2*B) n:=by
 obtain⟨h1,h2,h3⟩:=h
 refine⟨by rcases hB with rfl|rfl<;>omega,fun s s1 s2=> ?_,fun s s1 s2 s3=> ?_⟩
 ·by_cases e:s=a
  ·rw[e];exact hs
  ·exact srt_same (h2 s s1 (by rcases hB with rfl|rfl<;>omega)) fun i i1 i2=>hm.out i (by rcases hB with rfl|rfl<;>omega)
 ·exact srt_same (h3 s s1 (by omega) s3) fun i i1 i2=>hm.out i (by omega)
theorem Two.last_pre (h:Two key r B d a n) (hB:B=20∨B=40) (hn:n<a+2*B) (hm:a+B<n):Srt key r d a (a+B)∧Srt key r d (a+B) n:=by
 obtain⟨h1,-,h3⟩:=h
 rcases hB with rfl|rfl
 ·have p1:=h3 a (by omega) (by omega) (by omega)
  have p2:=h3 (a+20) (by omega) (by omega) (by omega)
  rw[Nat.min_eq_left (by omega)] at p1
  rw[Nat.min_eq_right (by omega)] at p2
  exact⟨p1,p2⟩
 ·have p1:=h3 a (by omega) (by omega) (by omega)
  have p2:=h3 (a+40) (by omega) (by omega) (by omega)
  rw[Nat.min_eq_left (by omega)] at p1
  rw[Nat.min_eq_right (by omega)] at p2
  exact⟨p1,p2⟩
theorem Two.last (h:Two key r B d a n) (hB:B=20∨B=40) (han:a≤n) (hn:n<a+2*B) (hs:Srt key r d' a n) (hm:Mv d d' a n):Runs key r (B*2) d' n:=by
 obtain⟨h1,h2,-⟩:=h
 intro s s1 s2
 by_cases e:s+2*B≤a
 ·have:min (s+B*2) n=s+2*B:=by omega
  rw[this]
  exact srt_same (h2 s (by rw[Nat.mul_comm 2 B];exact s1) e) fun i i1 i2=>hm.out i (by omega)
 ·have h3:s=a:=by rcases hB with rfl|rfl<;>omega
  have h4:min (s+B*2) n=n:=by omega
  rw[h4,h3];exact hs
theorem Two.last_none (h:Two key r B d a n) (hB:B=20∨B=40) (hm:¬a+B<n):Srt key r d a n:=by
 obtain⟨h1,-,h3⟩:=h
 by_cases e:a<n
 ·have p:=h3 a (by rcases hB with rfl|rfl<;>omega) (Nat.le_refl _) e
  rw[Nat.min_eq_right (by omega)] at p
  exact p
 ·exact srt_one d (by omega)
end Stab
end
end Go.Proofs.YtmkagjnkpjpjcaaGreat
