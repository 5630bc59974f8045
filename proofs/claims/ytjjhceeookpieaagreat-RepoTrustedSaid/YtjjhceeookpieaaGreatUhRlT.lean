/- RlT -/
import Derived.Test.YtjjhceeookpieaaGreatUhRlP
import Derived.Test.YtjjhceeookpieaaGreatUhSnO
set_option maxRecDepth 100000
open Go Go.RowKit Go.WideShapes Go.ChangeShapes Go.Deep
namespace Go.Proofs.YtjjhceeookpieaaGreat
theorem Ai7: Tryz.prog.cellsOf 46=40:=by kernel_rfl
theorem YY (w:World):RL Tryz.prog w Ly (fun _=>True) 46:=fun H enc spare held fuel cs x hf=>by
 obtain⟨m0,hl,E⟩:=LD Tryz.underlying46 hf;obtain⟨y0,e0,_⟩:=E 0 _ rfl;obtain⟨y1,e1,_⟩:=E 1 _ rfl;obtain⟨y2,e2,_⟩:=E 2 _ rfl;obtain⟨y3,e3,_⟩:=E 3 _ rfl
 dsimp only at e0 e1 e2 e3
 rw[cIW] at e0 e2 e3;rw[Aj2] at e1;rw[Ai7] at hl;obtain⟨z0,g0,_,_⟩:=DataW.trod_int Tryz.underlying3 e0;obtain⟨t,g1,_⟩:=PE w _ _ _ _ _ _ _ e1;obtain⟨z2,g2,_,_⟩:=DataW.trod_int Tryz.underlying3 e2;obtain⟨z3,g3,_,_⟩:=DataW.trod_int Tryz.underlying3 e3;refine⟨⟨z0,t,z2,z3⟩, ?_,trivial⟩;have q:cs=cs.drop 0:=rfl;rw[q,seg cs 0 1 1 rfl,seg cs 1 37 38 rfl,seg cs 38 1 39 rfl,TP cs 39 1 hl,g0,g1,g2,g3];show _=Value.int .i64 z0::(Af.enc t++[.int .i64 z2, .int .i64 z3]);simp
end Go.Proofs.YtjjhceeookpieaaGreat
