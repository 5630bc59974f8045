/- RepoTrusted returns true for every seed, script of a repo and life, and leaves all that was there as it was; no condition. -/
import Derived.Test.YtjjhceeookpieaaGreatUhUpG
import Derived.Test.YtjjhceeookpieaaGreatUhRlT
import Derived.Test.YtjjhceeookpieaaGreatUhSnO
import Derived.Test.YtjjhceeookpieaaGreatUhOpens
import Derived.Test.YtjjhceeookpieaaGreatUhPlain
set_option maxRecDepth 100000
open Go Go.RowKit Go.WideShapes Go.ChangeShapes Go.ChangeAt
namespace Go.Proofs.YtjjhceeookpieaaGreat
namespace RepoTrusted
theorem Acl (H:Type) (enc:TypeId×Value→H) (W:World) (base:Nat) (args:Array Value) (ds gs:List (DataW H)) (before:List MemPlace)
    (hval: ∀(j:Nat) t v,Tryz.f3.params[j]? =some t→args[j]? =some v→Value.okWide Tryz.prog W .any base t v)
    (hW:DataW.Whole enc Tryz.prog Tryz.f3.params.toList Rows.repoTrustedSpec.vars false W args.toList ds gs before):
    Calls Tryz.prog 3 args W fun e W'=>∃v,e= .returned v∧Rows.repoTrustedSpec.post enc Tryz.prog Tryz.f3 false true false false W args v W':=by
 have hW':=hW;obtain⟨p,q,hA0,hV,rfl,hfz,hnd⟩:=hW;have hA:DataW.TrodAll enc Tryz.prog W 0 (fun _=>true) true Tryz.f3.params.toList args.toList ds p:=hA0;rw[Tryz.params3] at hA hval;obtain⟨v0,vs0,d0,ds0,p0,q0,hargs,rfl,rfl,h0,r0⟩:=trodAll_cons hA;obtain⟨v1,vs1,d1,ds1,p1,q1,rfl,rfl,rfl,h1,r1⟩:=trodAll_cons r0;obtain⟨v2,vs2,d2,ds2,p2,q2,rfl,rfl,rfl,h2,r2⟩:=trodAll_cons r1;obtain⟨rfl,rfl,rfl⟩:=trodAll_nil r2;obtain rfl:args=#[v0,v1,v2]:=by cases args;simp_all
 obtain⟨x0,rfl,hl0⟩:=YA Tryz.underlying23 Tryz.underlying5 (by kernel_rfl) (by kernel_rfl) (hval 0 23 v0 rfl rfl) h0;obtain⟨A1,n1,c1,x1,rfl,hl1,hm1,hr1,hcap1,hp1,_⟩:=VQ (α:=Ly) Tryz.underlying24 Ai7 (by decide) (YY W) (hval 1 24 v1 rfl rfl) h1;obtain⟨x2,rfl,rfl,rfl,hwf2⟩:=open_int Tryz.underlying3 (hval 2 3 v2 rfl rfl) h2;refine((fun(_:HR W A1 (cellsOf x1))=>LV ⟨x0,hl0⟩ x2 hl1 (by unfold maxLen at hm1;omega)) ⟨hr1⟩).mono fun e W' ⟨he,hb⟩=>⟨.bool true,he, ?_⟩
 exact Aao Aat (by kernel_rfl) rfl hW' rfl (b:=4) rfl Tryz.underlying4 hb.below'
theorem Acm (os:Os):laidMet Tryz.prog Rows.repoTrustedRow.laid ((World.holding Tryz.prog os ⟨#[],#[],[]⟩).forCall (fun _ _=>0) ⟨#[],#[Value.agg (Array.replicate 32 (Value.int .u8 0)),Value.slice none 0 0,Value.int .i64 0],[]⟩).memory :=
 laidMet_of_run' 8 (by kernel_rfl) (by kernel_rfl)
theorem Acn (os:Os) {H:Type} (enc:TypeId×Value→H): ∃places,DataW.whole enc Tryz.prog ((World.holding Tryz.prog os ⟨#[],#[],[]⟩).forCall (fun _ _=>0) ⟨#[],#[Value.agg (Array.replicate 32 (Value.int .u8 0)),Value.slice none 0 0,Value.int .i64 0],[]⟩).memory Tryz.f3.params.toList Rows.repoTrustedSpec.vars false #[Value.agg (Array.replicate 32 (Value.int .u8 0)),Value.slice none 0 0,Value.int .i64 0].toList 8=some ([.agg (List.replicate 32 (.lit (.int .u8 0))), .nil, .lit (.int .i64 0)],[],places):=
 ⟨[],by kernel_rfl⟩
theorem Ah0 (os:Os) (started:os.Started) (H:Type) (enc:TypeId×Value→H) (F:Stop.Interp):
    ReturnsInHanded {} Tryz.checked os 3 .any ((OpenSpec.ofChange Rows.repoTrustedSpec).preRow enc Tryz.prog Tryz.f3 Rows.repoTrustedRow.domain false Rows.repoTrustedRow.laid) (((OpenSpec.ofChange Rows.repoTrustedSpec).at F).post enc Tryz.prog Tryz.f3 false true false false):=by
 obtain⟨places,hx⟩:=Acn os enc;refine returnsInHanded_of_row (C:=Tryz.checked) (s:=OpenSpec.ofChange Rows.repoTrustedSpec) Alh started (by kernel_rfl) Tryz.func3
  (witness_row_at (enc:=enc) (C:=Tryz.checked) false (World.holding Tryz.prog os ⟨#[],#[],[]⟩) #[Value.agg (Array.replicate 32 (Value.int .u8 0)),Value.slice none 0 0,Value.int .i64 0] rfl (by kernel_rfl) (by kernel_rfl) (by kernel_rfl)
   (OpenSpec.preRow_of_cond 8 hx (by kernel_rfl) (fun k hk=>by cases hk) (by kernel_rfl) (Acm os))) ?_
 intro W base args ds gs before hval hW _ _ _ hL _ _;exact Acl H enc W base args ds gs before hval hW
theorem said:Rows.RepoTrustedSaid:=
 OpenClaim.holds_of_cond 3 Tryz.f3 rfl rfl rfl rfl rfl rfl rfl ⟨rfl,rfl,rfl,rfl,rfl⟩ rfl rfl rfl rfl rfl (by kernel_rfl) Tryz.func3 (by kernel_rfl)
  (of_decide_eq_true (by kernel_rfl)) (by unfold Func.isWrapper;first|(rw[if_pos (by decide+kernel)];kernel_rfl)|(rw[if_neg (by decide+kernel)];exact⟨rfl,rfl⟩))
  (fun os started H enc _ F=>by rw[OpenClaim.pre_eq_preRow];exact Ah0 os started H enc F)
end RepoTrusted
theorem repoTrusted_holds:Rows.RepoTrustedSaid:=RepoTrusted.said
end Go.Proofs.YtjjhceeookpieaaGreat
