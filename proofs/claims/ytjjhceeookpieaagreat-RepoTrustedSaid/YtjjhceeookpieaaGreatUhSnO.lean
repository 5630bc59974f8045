/- UhSnO, UhTgO, UhFwO -/
import Derived.Test.YtjjhceeookpieaaGreatUhSnA
import Derived.Test.YtjjhceeookpieaaGreatUhRoO
import Derived.Test.YtjjhceeookpieaaGreatUhWyO
import Derived.Test.YtjjhceeookpieaaGreatUhTgD
section
open Go Go.RowKit Go.WideShapes Go.ChangeShapes Go.Deep
namespace Go.Proofs.YtjjhceeookpieaaGreat
theorem OY (s:ByteArray):s=Al s.data.toList:=by
 cases s;simp[Al]
end Go.Proofs.YtjjhceeookpieaaGreat
end
section
open Go Go.RowKit Go.WideShapes Go.ChangeShapes Go.Deep
namespace Go.Proofs.YtjjhceeookpieaaGreat
theorem Aj2: Tryz.prog.cellsOf 44=37:=by kernel_rfl
end Go.Proofs.YtjjhceeookpieaaGreat
end
section
set_option maxRecDepth 100000
open Go Go.RowKit Go.WideShapes Go.ChangeShapes Go.Deep
namespace Go.Proofs.YtjjhceeookpieaaGreat
def Ag5 (t:Ad):Prop:=t.l.length≤maxLen∧t.hw.length≤maxLen∧t.ecu.length≤maxLen
theorem VC (s:ByteArray) (h:s.size≤maxLen):s.data.toList.length≤maxLen:=by
 rw[Array.length_toList];exact h
theorem PE (w:World):RL Tryz.prog w Ad Ag5 44:=fun H enc spare held fuel cs x hf=>by
 obtain⟨m0,hl,E⟩:=LD Tryz.underlying44 hf;obtain⟨y0,e0,_⟩:=E 0 _ rfl;obtain⟨y1,e1,_⟩:=E 1 _ rfl;obtain⟨y2,e2,_⟩:=E 2 _ rfl;obtain⟨y3,e3,_⟩:=E 3 _ rfl;obtain⟨y4,e4,_⟩:=E 4 _ rfl;obtain⟨y5,e5,_⟩:=E 5 _ rfl
 dsimp only at e0 e1 e2 e3 e4 e5
 rw[cSW] at e0 e3 e5;rw[cHW] at e2;rw[cIW] at e1 e4;rw[Aj2] at hl;obtain⟨s0,g0,_,hs0⟩:=DataW.trod_string Tryz.underlying9 e0;obtain⟨z1,g1,_,_⟩:=DataW.trod_int Tryz.underlying3 e1;obtain⟨hh,g2⟩:=WM _ _ _ _ _ _ _ _ _ e2;obtain⟨s3,g3,_,hs3⟩:=DataW.trod_string Tryz.underlying9 e3;obtain⟨z4,g4,_,_⟩:=DataW.trod_int Tryz.underlying3 e4;obtain⟨s5,g5,_,hs5⟩:=DataW.trod_string Tryz.underlying9 e5;refine⟨⟨s0.data.toList,z1,hh,s3.data.toList,z4,s5.data.toList⟩, ?_,VC _ hs0,VC _ hs3,VC _ hs5⟩;have q:cs=cs.drop 0:=rfl;rw[q,seg cs 0 1 1 rfl,seg cs 1 1 2 rfl,seg cs 2 32 34 rfl,seg cs 34 1 35 rfl,seg cs 35 1 36 rfl,TP cs 36 1 hl,g0,g1,g2,g3,g4,g5];show _=Value.string (Al s0.data.toList):: .int .i64 z1::(bs hh.l++[.string (Al s3.data.toList), .int .i64 z4, .string (Al s5.data.toList)]);rw[←OY,←OY,←OY];rfl
def Al3 (w:World) (d:Ax):Prop:=d.l.length≤maxLen∧d.pre.length≤maxLen∧Am3 w d.k
end Go.Proofs.YtjjhceeookpieaaGreat
end
