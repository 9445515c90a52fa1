/-
  SEVERAL TEXTS IN ONE FILE: PRepTornRow.
-/
import Derived.Test.YtmkagjnkpjpjcaaGreatJTo02
import Derived.Test.YtmkagjnkpjpjcaaGreatJ02
namespace Go.Proofs.YtmkagjnkpjpjcaaGreat
set_option maxRecDepth 100000
set_option linter.unusedSimpArgs false
set_option linter.unusedVariables false
set_option maxHeartbeats 400000
section
open Go.ChangeShapes Go.WideShapes Go.ChangeAt Go.RowKit Mem Args
namespace Rp
theorem replayTorn_says:Frame.Says Rows.replayTornSpec 5:=by
 refine⟨rfl,fun H ds h=> ?_,fun H ds h=> ?_,fun H ds h=> ?_⟩<;>
 ·match ds,h with
  | [d0,d1,d2,d3,d4],_=>rfl
theorem replayTorn_walks:Frame.Walks 4 [22,3,3,44,3]:=by
 intro H enc W args ds ps base hok hA hsz
 obtain⟨v0,vs0,d0,ds0,p0,q0,hargs,rfl,rfl,h0,r0⟩:=trodAll_cons hA
 obtain⟨v1,vs1,d1,ds1,p1,q1,rfl,rfl,rfl,h1,r1⟩:=trodAll_cons r0
 obtain⟨v2,vs2,d2,ds2,p2,q2,rfl,rfl,rfl,h2,r2⟩:=trodAll_cons r1
 obtain⟨v3,vs3,d3,ds3,p3,q3,rfl,rfl,rfl,h3,r3⟩:=trodAll_cons r2
 obtain⟨v4,vs4,d4,ds4,p4,q4,rfl,rfl,rfl,h4,r4⟩:=trodAll_cons r3
 obtain⟨rfl,rfl,rfl⟩:=trodAll_nil r4
 obtain rfl:args= #[v0,v1,v2,v3,v4]:=by cases args;simp_all
 obtain⟨A0,n0,c0,l0,rfl,k0⟩:=open_writes (hok 0 _ v0 rfl rfl) h0 (sized_arg hsz (j:=0) rfl rfl)
 obtain⟨z1,rfl,rfl,rfl,hz1⟩:=open_int Tryz.underlying3 (hok 1 _ v1 rfl rfl) h1
 obtain⟨z2,rfl,rfl,rfl,hz2⟩:=open_int Tryz.underlying3 (hok 2 _ v2 rfl rfl) h2
 obtain⟨f3,rfl⟩:=open_write (hok 3 _ v3 rfl rfl) h3
 obtain⟨z4,rfl,rfl,rfl,hz4⟩:=open_int Tryz.underlying3 (hok 4 _ v4 rfl rfl) h4
 exact torn_walk k0 z1 z2 f3 z4
theorem replayTorn_over:Rows.replayTornRow.holds Tryz.pinned (OpenSpec.ofChange Rows.replayTornSpec):=
 OpenClaim.holds_of_wide 4 Tryz.f4 rfl rfl rfl rfl rfl rfl rfl ⟨rfl,rfl,rfl,rfl,rfl⟩ rfl rfl rfl rfl rfl (by kernel_rfl) Tryz.func4 (by kernel_rfl)
  (of_decide_eq_true (by kernel_rfl)) (by unfold Func.isWrapper;first|(rw[if_pos (by decide+kernel)];kernel_rfl)|(rw[if_neg (by decide+kernel)];exact⟨rfl,rfl⟩))
  (fun os started H enc _=>Frame.lifted (started:=started) Tryz.underlying4 (by kernel_rfl) Tryz.func4 (n:=5) (by rw[Tryz.params4];rfl) replayTorn_says (by rw[Tryz.params4];kernel_rfl) (by kernel_rfl)
   (ChangeSpec.witness6 (enc:=enc) (C:=Tryz.checked) false ⟨#[],#[.slice none 0 0,.int .i64 0,.int .i64 0,.agg #[.int .i64 0,.int .i64 0,.int .i64 0,.int .u8 0,.bool false],.int .i64 0],[]⟩ 8 (by kernel_rfl) (by kernel_rfl) (by kernel_rfl) (by kernel_rfl))
   (by rw[Tryz.params4];exact replayTorn_walks))
end Rp
theorem replayTorn_holds:Rows.ReplayTornSaid:=Rp.replayTorn_over
end
end Go.Proofs.YtmkagjnkpjpjcaaGreat
