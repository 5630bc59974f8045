/- UhTgM, UhTgN, UhTgP, UhTgQ, UhTgR, UhTgS, UhTgK, UhTgU, UhFwA, UhFwE, UhFwG, UhFwH -/
import Derived.Test.YtjjhceeookpieaaGreatUhSnA
import Derived.Test.YtjjhceeookpieaaGreatUhTgB
import Derived.Test.YtjjhceeookpieaaGreatUhTgD
import Derived.Test.YtjjhceeookpieaaGreatUhZ
import Derived.Test.YtjjhceeookpieaaGreatUhTy
import Derived.Test.YtjjhceeookpieaaGreatUhUnD
import Derived.Test.YtjjhceeookpieaaGreatUhWuB
section
open Go Go.RowKit
namespace Go.Proofs.YtjjhceeookpieaaGreat
def RS.hnx (s:RS):RS:=(s.raw 32).2
theorem RS.hnx_le (s:RS):s.hnx.b.length≤s.b.length:=by
 unfold RS.hnx RS.raw;split
 ·exact Nat.zero_le _
 show(s.b.drop _).length ≤s.b.length;rw[List.length_drop];omega
def Dt (s:RS):Ad×RS:=(⟨s.row.1,(s.row.2.num.1:Nat),s.row.2.num.2.hsh,s.row.2.num.2.hnx.row.1,(s.row.2.num.2.hnx.row.2.num.1:Nat),s.row.2.num.2.hnx.row.2.num.2.row.1⟩,s.row.2.num.2.hnx.row.2.num.2.row.2)
theorem Mx {s:RS} (h:s.num.2.e=false):s.e=false∧s.b=Ae [(s.num.1:Int)]++s.num.2.b:=by
 obtain⟨a1,a2,a3⟩:=Cs h;exact⟨a1,by rw[Jg a3];exact a2⟩
theorem Ac2 {s:RS} (h:s.hnx.e=false):s.e=false∧s.b=s.hsh.l++s.hnx.b:=LZ h
theorem Ka:FB Dt NL:=⟨fun s=>by
 have h1:=RS.row_le s;have h2:=RS.num_le s.row.2;have h3:=RS.hnx_le s.row.2.num.2;have h4:=RS.row_le s.row.2.num.2.hnx;have h5:=RS.num_le s.row.2.num.2.hnx.row.2;have h6:=RS.row_le s.row.2.num.2.hnx.row.2.num.2;show s.row.2.num.2.hnx.row.2.num.2.row.2.b.length≤_;omega,fun s h=>by
 obtain⟨f1,f2⟩:=FZ (s:=s.row.2.num.2.hnx.row.2.num.2) h;obtain⟨e1,e2⟩:=Mx (s:=s.row.2.num.2.hnx.row.2) f1;obtain⟨d1,d2⟩:=FZ (s:=s.row.2.num.2.hnx) e1;obtain⟨c1,c2⟩:=Ac2 (s:=s.row.2.num.2) d1;obtain⟨b1,b2⟩:=Mx (s:=s.row.2) c1;obtain⟨a1,a2⟩:=FZ (s:=s) b1;refine⟨a1, ?_⟩;show s.b=(Ap s.row.1++(Ae [(s.row.2.num.1:Int)]++(s.row.2.num.2.hsh.l++(Ap s.row.2.num.2.hnx.row.1++(Ae [(s.row.2.num.2.hnx.row.2.num.1:Int)]++Ap s.row.2.num.2.hnx.row.2.num.2.row.1)))))++s.row.2.num.2.hnx.row.2.num.2.row.2.b;rw[List.append_assoc,List.append_assoc,List.append_assoc,List.append_assoc,List.append_assoc,←f2,←e2,←d2,←c2,←b2];exact a2⟩
def My (a b:Value) (h:Ak) (x y z:Value):List Value:=a::b::(bs h.l++[x,y,z])
theorem LP (a b:Value) (h:Ak) (x y z:Value):(My a b h x y z).toArray.size =37:=by simp[My,Am,h.len]
theorem Agn (a b:Value) (h:Ak) (x y z v:Value):(My a b h x y z).toArray.setIfInBounds 34 v=(My a b h v y z).toArray :=by
 rw[sA]
 congr 1
 show a::b::(bs h.l++[x,y,z]).set 32 v=_;rw[List.set_append_right _ _ (by rw[SN];exact Nat.le_refl _),SN];rfl
theorem Ago (a b:Value) (h:Ak) (x y z v:Value):(My a b h x y z).toArray.setIfInBounds 35 v=(My a b h x v z).toArray :=by
 rw[sA]
 congr 1
 show a::b::(bs h.l++[x,y,z]).set 33 v=_;rw[List.set_append_right _ _ (by rw[SN];decide),SN];rfl
theorem Agp (a b:Value) (h:Ak) (x y z v:Value):(My a b h x y z).toArray.setIfInBounds 36 v=(My a b h x y v).toArray :=by
 rw[sA]
 congr 1
 show a::b::(bs h.l++[x,y,z]).set 34 v=_;rw[List.set_append_right _ _ (by rw[SN];decide),SN];rfl
end Go.Proofs.YtjjhceeookpieaaGreat
end
section
open Go Go.RowKit
namespace Go.Proofs.YtjjhceeookpieaaGreat
theorem Aev (r:Ad) (w:World):(Instr.buildSlice 63 1 #[(0, .agg (Af.enc r).toArray)]).run Tryz.prog w= .ok (.slice (some ⟨w.heap.size,0,none⟩) 1 1) (w.alloc (.cells (cellsOf [r]).toArray 44)):=by
 have hs:(Af.enc r).toArray.size =37:=Af.len r;have hz: ∀w,(zeroValue 44).run Tryz.prog w= .ok (.agg BZ) w:=fun _=>by kernel_rfl
 have hi: ∀w,(sizeOf 44).run Tryz.prog w= .ok 37 w:=fun _=>by kernel_rfl
 have hz1:BZ.size=37:=rfl;have he:(cellsOf [r]).toArray =(Af.enc r).toArray.toList.toArray :=by simp[cellsOf]
 rw[he];obtain⟨Z,hZ⟩: ∃Z:Array Value,Z=BZ:=⟨_,rfl⟩;obtain⟨R,hR⟩: ∃R:Array Value,R=(Af.enc r).toArray :=⟨_,rfl⟩;rw[←hZ] at hz hz1;rw[←hR] at hs⊢;clear hZ hR he;unfold Instr.buildSlice;simp only[Sem.run_bind,run_underlying Tryz.underlying63,Result.andThen_ok,hi];obtain⟨W,hW⟩: ∃W:Array Value,W=(Array.range (1*37)).map (Z[·%Z.size]!):=⟨_,rfl⟩;have hWs:W.size=37:=by rw[hW];simp
 have hf:Instr.fill (fun i=>some (i*37,37)) W [(0,Value.agg R)]=some R.toList.toArray:=by
  rw[AZ _ _ 0 (.agg R) _ (off:=0) (size:=37) rfl hs (by rw[hWs];decide)];have e:GH 0 R W=R.toList.toArray:=by
   unfold GH
   congr 1
   simp only[List.take_zero,List.nil_append,Nat.zero_add,hs];rw[List.drop_of_length_le (by simp[hWs]),List.append_nil]
  show Instr.fill _ (GH 0 R W) []=_;rw[e];rfl
 rw[hW] at hf;simp[hz,Value.cells,hf,newRow]
end Go.Proofs.YtjjhceeookpieaaGreat
end
section
open Go Go.RowKit
namespace Go.Proofs.YtjjhceeookpieaaGreat
def fgV (s:RS):Bool:=decide (s.num.1=1)
def WA (s:RS):RS:=if 1<s.num.1 then RS.bad else s.num.2
theorem Agq (s:RS):(WA s).b.length ≤s.b.length:=by
 unfold WA;split
 ·exact Nat.zero_le _
 exact RS.num_le s
theorem Xt {s:RS} (h:(WA s).e =false):s.e=false∧s.b=Gl (fgV s)++(WA s).b :=by
 unfold WA fgV at*;by_cases h1:1<s.num.1
 ·rw[if_pos h1] at h;cases h
 rw[if_neg h1] at h⊢;obtain⟨a1,a2⟩:=Mx h;refine⟨a1, ?_⟩;rcases(show s.num.1=0∨s.num.1=1 by omega) with h2|h2
 ·rw[h2] at a2⊢;exact a2
 rw[h2] at a2⊢;exact a2
end Go.Proofs.YtjjhceeookpieaaGreat
end
section
open Go Go.RowKit
namespace Go.Proofs.YtjjhceeookpieaaGreat
abbrev Pv:=List UInt8×(List Ak×Int)×List UInt8×Bool
def Ax.m (d:Ax):Pv:=(d.l,d.k.m,d.pre,d.last)
def Mz (s:RS):Pv×RS:=((s.row.1,(kL s.row.2,(kD s.row.2:Int)),(kR s.row.2).row.1,fgV (kR s.row.2).row.2),WA (kR s.row.2).row.2)
def MA (x:Pv):List UInt8:=Ap x.1++(Du x.2.1.1 x.2.1.2++(Ap x.2.2.1++Gl x.2.2.2))
theorem Sy:FB Mz MA:=⟨fun s=>by
 have h1:=RS.row_le s;have h2:=Aid s.row.2;have h3:=RS.row_le (kR s.row.2);have h4:=Agq (kR s.row.2).row.2;show(WA (kR s.row.2).row.2).b.length ≤_;omega,fun s h=>by
 obtain⟨d1,d2⟩:=Xt (s:=(kR s.row.2).row.2) h;obtain⟨c1,c2⟩:=FZ (s:=kR s.row.2) d1;obtain⟨b1,b2⟩:=LC (s:=s.row.2) c1;obtain⟨a1,a2⟩:=FZ (s:=s) b1;refine⟨a1, ?_⟩;show s.b=(Ap s.row.1++(Du (kL s.row.2) (kD s.row.2:Int)++(Ap (kR s.row.2).row.1 ++Gl (fgV (kR s.row.2).row.2))))++(WA (kR s.row.2).row.2).b;rw[List.append_assoc,List.append_assoc,List.append_assoc,←d2,←c2,←b2];exact a2⟩
end Go.Proofs.YtjjhceeookpieaaGreat
end
section
open Go Go.RowKit
namespace Go.Proofs.YtjjhceeookpieaaGreat
theorem Sz (r:Ax) (w:World):(Instr.buildSlice 64 1 #[(0, .agg (Af.enc r).toArray)]).run Tryz.prog w= .ok (.slice (some ⟨w.heap.size,0,none⟩) 1 1) (w.alloc (.cells (cellsOf [r]).toArray 213)):=by kernel_rfl
def KsD (w0 w:World) (A:Option Addr) (D:List Ax):Prop:=∀x∈D,Vh w x∧Aj w0 x.k.A∧∀y,Jw x.k.A x.k.l y→¬An A y
end Go.Proofs.YtjjhceeookpieaaGreat
end
section
open Go Go.RowKit
namespace Go.Proofs.YtjjhceeookpieaaGreat
def MB (s:RS):RS:=s.row.2.at 2
end Go.Proofs.YtjjhceeookpieaaGreat
end
section
set_option maxRecDepth 100000
set_option maxHeartbeats 6400000
open Go Go.RowKit
namespace Go.Proofs.YtjjhceeookpieaaGreat
def DO (nm:List UInt8) (v e0:Int) (P:List Ad) (D:List Ax):Bool:=Bl nm&&BE v&&Ca e0&&decide (P.length≤16)&&P.all DX&&Fp P P.length&&decide (D.length≤16)&&D.all Fd&&JG (CR D) D.length
theorem IZ (nm:List UInt8) (v e0:Int) {A C:Option Addr} {n c m d:Nat} {P:List Ad} {D:List Ax} {w:World} [hr:HR w A (cellsOf P)] [hq:HR w C (cellsOf D)] (hl:P.length=n) (hm:D.length=m) (hmax:n≤9223372036854775807) (hmaxm:m≤9223372036854775807) (hD: ∀k∈D,FG w k):
    Calls Tryz.prog 63 #[.agg #[.string (Al nm), .int .i64 v, .int .i64 e0, .slice A n c, .slice C m d]] w fun e w'=>e= .returned (.bool (DO nm v e0 P D))∧Ag Ab w w':=by
 have HL:=Lib.hid hl;have HM:=Lib.hid hm;have HDI:=Lib.hid hD;obtain⟨R,hR⟩: ∃R,R=DO nm v e0 P D:=⟨_,rfl⟩;have hR2:=hR;rw[DO] at hR2;rw[←hR];obtain⟨B0,hB0⟩: ∃B,B=Bl nm:=⟨_,rfl⟩;obtain⟨B1,hB1⟩: ∃B,B=BE v:=⟨_,rfl⟩;obtain⟨B2,hB2⟩: ∃B,B=Ca e0:=⟨_,rfl⟩;obtain⟨B3,hB3⟩: ∃B,B=decide (P.length≤16):=⟨_,rfl⟩;obtain⟨B4,hB4⟩: ∃B,B=P.all DX:=⟨_,rfl⟩;obtain⟨B5,hB5⟩: ∃B,B=Fp P P.length:=⟨_,rfl⟩;obtain⟨B6,hB6⟩: ∃B,B=decide (D.length≤16):=⟨_,rfl⟩;obtain⟨B7,hB7⟩: ∃B,B=D.all Fd:=⟨_,rfl⟩;obtain⟨B8,hB8⟩: ∃B,B=JG (CR D) D.length:=⟨_,rfl⟩;rw[←hB0,←hB1,←hB2,←hB3,←hB4,←hB5,←hB6,←hB7,←hB8] at hR2;have HR0:=Lib.hid hR2;have HB0:=Lib.hid hB0;have HB1:=Lib.hid hB1;have HB2:=Lib.hid hB2;have HB3:=Lib.hid hB3;have HB4:=Lib.hid hB4;have HB5:=Lib.hid hB5;have HB6:=Lib.hid hB6;have HB7:=Lib.hid hB7;have HB8:=Lib.hid hB8;clear hD hl hm hR hR2 hB0 hB1 hB2 hB3 hB4 hB5 hB6 hB7 hB8;go_enter Tryz.func63,Tryz.ntmps63;go_wp2_with (first|(refine Bv 1 ?_;intro zt wzt _ _ _)|((with_reducible apply Ac);exact rfl;infer_instance;(first|(exact rfl)|(exact tg_hw _)|(exact tg_ctr _)|(exact tg_ecu _)|(exact srch_who)|exact srch_fd)));refine(Bs (Al nm) nm rfl _).mono ?_;rw[←HB0.out];rintro e w10 ⟨rfl,_⟩;cases B0
 case false=>
  have HF:Hid (R=false):=Lib.hid (by rw[HR0.out];simp);go_wp2_with (first|go_skip);go_ret;rw[HF.out];exact⟨rfl,Aa⟩
 go_wp2_with (first|(refine Ct ?_)|(refine CG ?_)|((with_reducible apply Ac);exact rfl;infer_instance;(first|(exact rfl)|(exact tg_hw _)|(exact tg_ctr _)|(exact tg_ecu _)|(exact srch_who)|exact srch_fd)));refine(Bh v _).mono ?_;rw[←HB1.out];rintro e w11 ⟨rfl,_⟩;cases B1
 case false=>
  have HF:Hid (R=false):=Lib.hid (by rw[HR0.out];simp);go_wp2_with (first|go_skip);go_ret;rw[HF.out];exact⟨rfl,Aa⟩
 go_wp2_with (first|(refine Ct ?_)|(refine CG ?_)|((with_reducible apply Ac);exact rfl;infer_instance;(first|(exact rfl)|(exact tg_hw _)|(exact tg_ctr _)|(exact tg_ecu _)|(exact srch_who)|exact srch_fd)));refine(Cj e0 _).mono ?_;rw[←HB2.out];rintro e w12 ⟨rfl,_⟩;cases B2
 case false=>
  by_cases h2:n≤16
  all_goals
   have h2I:=h2;have HF:Hid (R=false):=Lib.hid (by rw[HR0.out];simp);go_wp2_with (first|go_skip);go_ret;rw[HF.out];exact⟨rfl,Aa⟩
 by_cases hc3:n≤16;rotate_left
 focus
  have hcI: ¬(n:Int)≤16:=by omega
  have HF:Hid (R=false):=Lib.hid (by rw[HR0.out,HB3.out,decide_eq_false (show ¬P.length≤16 by have:=HL.out;omega)];simp);go_wp2_with (first|go_skip|(refine WGC ?_)|(refine Ct ?_)|(refine CG ?_)|((with_reducible apply Ac);exact rfl;infer_instance;(first|(exact rfl)|(exact tg_hw _)|(exact tg_ctr _)|(exact tg_ecu _)|(exact srch_who)|exact srch_fd)));go_ret;rw[HF.out];exact⟨rfl,Aa⟩
 have hcI3:(n:Int)≤16:=by omega
 have HRc3:Hid (B3=true):=Lib.hid (by rw[HB3.out,decide_eq_true (show P.length≤16 by have:=HL.out;omega)]);go_wp2_with (first|(refine Ct ?_)|(refine CG ?_)|((with_reducible apply Ac);exact rfl;infer_instance;(first|(exact rfl)|(exact tg_hw _)|(exact tg_ctr _)|(exact tg_ecu _)|(exact srch_who)|exact srch_fd)));refine(Wy (K:=P) HL.out hmax).mono ?_;rw[←HB4.out];rintro e w14 ⟨rfl,_⟩;cases B4
 case false=>
  have HF:Hid (R=false):=Lib.hid (by rw[HR0.out];simp);go_wp2_with (first|go_skip);go_ret;rw[HF.out];exact⟨rfl,Aa⟩
 go_wp2_with (first|(refine Ct ?_)|(refine CG ?_)|((with_reducible apply Ac);exact rfl;infer_instance;(first|(exact rfl)|(exact tg_hw _)|(exact tg_ctr _)|(exact tg_ecu _)|(exact srch_who)|exact srch_fd)));refine(Uy (P:=P) HL.out hmax).mono ?_;rw[←HB5.out];rintro e w15 ⟨rfl,_⟩;cases B5
 case false=>
  by_cases h5:m≤16
  all_goals
   have h5I:=h5;have HF:Hid (R=false):=Lib.hid (by rw[HR0.out];simp);go_wp2_with (first|go_skip);go_ret;rw[HF.out];exact⟨rfl,Aa⟩
 by_cases hc6:m≤16;rotate_left
 focus
  have hcI: ¬(m:Int)≤16:=by omega
  have HF:Hid (R=false):=Lib.hid (by rw[HR0.out,HB6.out,decide_eq_false (show ¬D.length≤16 by have:=HM.out;omega)];simp);go_wp2_with (first|go_skip|(refine WGC ?_)|(refine Ct ?_)|(refine CG ?_)|((with_reducible apply Ac);exact rfl;infer_instance;(first|(exact rfl)|(exact tg_hw _)|(exact tg_ctr _)|(exact tg_ecu _)|(exact srch_who)|exact srch_fd)));go_ret;rw[HF.out];exact⟨rfl,Aa⟩
 have hcI6:(m:Int)≤16:=by omega
 have HRc6:Hid (B6=true):=Lib.hid (by rw[HB6.out,decide_eq_true (show D.length≤16 by have:=HM.out;omega)]);go_wp2_with (first|(refine Ct ?_)|(refine CG ?_)|((with_reducible apply Ac);exact rfl;infer_instance;(first|(exact rfl)|(exact tg_hw _)|(exact tg_ctr _)|(exact tg_ecu _)|(exact srch_who)|exact srch_fd)));refine(UE (K:=D) (fun r hr=>FG.nw (w0:=w) (HDI.out r hr)) HM.out (by omega)).mono ?_;rw[←HB7.out];rintro e w17 ⟨rfl,_⟩;cases B7
 case false=>
  have HF:Hid (R=false):=Lib.hid (by rw[HR0.out];simp);go_wp2_with (first|go_skip);go_ret;rw[HF.out];exact⟨rfl,Aa⟩
 go_wp2_with (first|(refine Ct ?_)|(refine CG ?_)|((with_reducible apply Ac);exact rfl;infer_instance;(first|(exact rfl)|(exact tg_hw _)|(exact tg_ctr _)|(exact tg_ecu _)|(exact srch_who)|exact srch_fd)));refine(UG (K:=D) HM.out (by omega)).mono ?_;rintro e w30 ⟨A9,c9,rfl,hc9,hr9,_⟩;have HC9:=Lib.hid hc9;go_wp2_with fail;refine(Qe (l:=CR D) (by rw[CR,List.length_map];exact HM.out) HC9.out (by omega)).mono ?_;have HB9:Hid (JG (CR D) m=B8):=Lib.hid (by rw[HB8.out,HM.out]);rw[HB9.out];rintro e w31 ⟨rfl,_⟩;have HF:Hid (R=B8):=Lib.hid (by rw[HR0.out,HRc3.out,HRc6.out];simp);go_wp2_with fail;go_ret;rw[HF.out];exact⟨rfl,Aa⟩
end Go.Proofs.YtjjhceeookpieaaGreat
end
section
open Go Go.RowKit
namespace Go.Proofs.YtjjhceeookpieaaGreat
def UH (x:Pv):Bool:=Bl x.1&&Nf x.2.1.1 x.2.1.2&&Fw x.2.2.1
def Gh (nm:List UInt8) (v e0:Int) (P:List Ad) (M:List Pv):Bool:=Bl nm&&BE v&&Ca e0&&decide (P.length≤16)&&P.all DX&&Fp P P.length&&decide (M.length≤16)&&M.all UH&&JG (M.map Prod.fst) M.length
theorem Xu (nm:List UInt8) (v e0:Int) (P:List Ad) (D:List Ax):DO nm v e0 P D=Gh nm v e0 P (D.map Ax.m):=by
 unfold DO Gh;rw[List.length_map,List.all_map,List.map_map];rfl
def SB (b:List UInt8):RS:=Fs Dt 16 (MB (AO 4 b))
def Agr (b:List UInt8):RS:=Fs Mz 16 (SB b)
def KB (b:List UInt8):List UInt8:=(AO 4 b).row.1
def JI (b:List UInt8):Nat:=(AO 4 b).row.2.num.1
def UI (b:List UInt8):Nat:=((AO 4 b).row.2.at 1).num.1
def Zo (b:List UInt8):List Ad:=GW Dt 16 (MB (AO 4 b))
def Zp (b:List UInt8):List Pv:=GW Mz 16 (SB b)
def Di (b:List UInt8):Bool:=Cv (Agr b)&&Gh (KB b) (JI b) (UI b) (Zo b) (Zp b)
def tgM (b:List UInt8):List UInt8×Int×Int×List Ad×List Pv×Int:=if Di b then(KB b,(JI b:Int),(UI b:Int),Zo b,Zp b,0) else([],0,0,[],[],2)
def Afi (b:List UInt8) (w:World):Ending→World→Prop:=fun e w'=>Ag Ab w w'∧∃nm v x A n c C m q P D err,e= .returned (.tuple #[.agg #[.string (Al nm), .int .i64 v, .int .i64 x, .slice A n c, .slice C m q], .int .i64 err])∧Hid ((nm,v,x,P,D.map Ax.m,err)=tgM b∧(P.length=n∧n≤c∧n≤16)∧D.length=m∧m≤q∧m≤16)∧Hid (Rd w' A (cellsOf P)∧Rd w' C (cellsOf D)∧∀x∈D,Vh w' x∧Aj w x.k.A)∧Aj w A∧Aj w C
end Go.Proofs.YtjjhceeookpieaaGreat
end
section
open Go Go.RowKit
namespace Go.Proofs.YtjjhceeookpieaaGreat
theorem Ed {v:Int} (h0:0≤v) (h:v≤4611686018427387904) (r:List UInt8):(⟨Ae [v]++r,false⟩:RS).num =(v.toNat,⟨r,false⟩):=by
 have hc:CB v=v.toNat:=by unfold CB;omega
 rw[Bk,hc,Xc _ _ (by omega)]
theorem Iz (b r:List UInt8) (h:b.length≤4611686018427387904):(⟨Ap b++r,false⟩:RS).row =(b,⟨r,false⟩):=by
 unfold RS.row Ap;rw[List.append_assoc,Xc _ _ h];unfold RS.raw;rw[if_neg (by
  rintro(h1|h1|h1)
  ·cases h1
  ·exact absurd h1 (by simp)
  have h2:((b++r).length :Int)<(b.length:Int):=h1;rw[List.length_append] at h2;omega)]
 show((b++r).take (b.length:Int).toNat,(⟨(b++r).drop (b.length:Int).toNat,false⟩:RS))=_;rw[Int.toNat_natCast,List.take_left' rfl,List.drop_left' rfl]
theorem NB (h:Ak) (r:List UInt8):(⟨h.l++r,false⟩:RS).raw 32=(h.l,⟨r,false⟩):=by
 unfold RS.raw;rw[if_neg (by
  rintro(h1|h1|h1)
  ·cases h1
  ·omega
  rw[List.length_append,h.len] at h1;omega)]
 show((h.l++r).take 32,(⟨(h.l++r).drop 32,false⟩:RS))=_;rw[List.take_left' h.len,List.drop_left' h.len]
theorem Rx (h:Ak) (r:List UInt8):(⟨h.l++r,false⟩:RS).hsh =h:=by
 unfold RS.hsh;rw[NB];exact Ak.ext' (by rw[dif_pos (show(h.l,(⟨r,false⟩:RS)).1.length =32 from h.len)])
theorem Adk (h:Ak) (r:List UInt8):(⟨h.l++r,false⟩:RS).hnx =⟨r,false⟩:=by
 unfold RS.hnx;rw[NB]
section
variable {α:Type} {tk:RS→α×RS} {ef:α→List UInt8}
theorem WR (L:List α) (h: ∀x∈L,∀r,tk ⟨ef x++r,false⟩=(x,⟨r,false⟩)) (r:List UInt8): ∀k,k≤L.length→Hi tk ⟨L.flatMap ef++r,false⟩ k=⟨(L.drop k).flatMap ef++r,false⟩∧LQ tk ⟨L.flatMap ef++r,false⟩ k=L.take k
 |0,_=>⟨rfl,rfl⟩
 |k+1,hk=>by
  obtain⟨h1,h2⟩:=WR L h r k (by omega);have hd:L.drop k=L[k]::L.drop (k+1):=List.drop_eq_getElem_cons (by omega);have e:tk ⟨(L.drop k).flatMap ef++r,false⟩=(L[k],⟨(L.drop (k+1)).flatMap ef++r,false⟩):=by
   rw[hd,List.flatMap_cons,List.append_assoc];exact h _ (List.getElem_mem _) _
  constructor
  ·rw[Hi,h1,e]
  rw[LQ,h2,h1,e,List.take_append_getElem (by omega)]
theorem Ry (most:Nat) (L:List α) (hm:L.length≤most) (h9:L.length≤4611686018427387904) (h: ∀x∈L,∀r,tk ⟨ef x++r,false⟩=(x,⟨r,false⟩)) (r:List UInt8):
    GW tk most ⟨Ae [(L.length:Int)]++(L.flatMap ef++r),false⟩=L∧Fs tk most ⟨Ae [(L.length:Int)]++(L.flatMap ef++r),false⟩=⟨r,false⟩:=by
 have hn:=Ed (v:=(L.length:Int)) (by omega) (by omega) (L.flatMap ef++r);obtain⟨h1,h2⟩:=WR L h r L.length (Nat.le_refl _);unfold GW Fs;rw[hn];simp only[Int.toNat_natCast];rw[if_neg (by omega),if_neg (by omega),h1,h2];simp
end
theorem Aa0 (l:List Ak) (r:List UInt8): ∀k,k≤l.length→hS ⟨Dh l++r,false⟩ k=⟨Dh (l.drop k)++r,false⟩∧hN ⟨Dh l++r,false⟩ k=l.take k
 |0,_=>⟨rfl,rfl⟩
 |k+1,hk=>by
  obtain⟨h1,h2⟩:=Aa0 l r k (by omega);have hd:l.drop k=l[k]::l.drop (k+1):=List.drop_eq_getElem_cons (by omega);have e:Dh (l.drop k)++r=l[k].l ++(Dh (l.drop (k+1))++r):=by
   rw[hd,←List.append_assoc];rfl
  constructor
  ·rw[hS,h1,e,NB]
  rw[hN,h2,h1,e,Rx,List.take_append_getElem (by omega)]
theorem WS (l:List Ak) (need:Int) (hl:l.length≤4) (h0:0≤need) (h9:need≤4611686018427387904) (r:List UInt8):kL ⟨Du l need++r,false⟩=l∧kD ⟨Du l need++r,false⟩=need.toNat∧kR ⟨Du l need++r,false⟩=⟨r,false⟩:=by
 have e:Du l need++r=Ae [(l.length:Int)]++(Dh l++(Ae [need]++r)):=by simp[Du]
 have hn:=Ed (v:=(l.length:Int)) (by omega) (by omega) (Dh l++(Ae [need]++r));obtain⟨h1,h2⟩:=Aa0 l (Ae [need]++r) l.length (Nat.le_refl _);have hM:kM ⟨Du l need++r,false⟩=⟨Ae [need]++r,false⟩:=by
  unfold kM;rw[e,hn];simp only[Int.toNat_natCast];rw[if_neg (by omega),h1];simp[Dh]
 refine⟨?_, ?_, ?_⟩
 ·unfold kL;rw[e,hn];simp only[Int.toNat_natCast];rw[if_neg (by omega),h2];simp
 ·unfold kD;rw[hM,Ed h0 h9]
 unfold kR;rw[hM,Ed h0 h9]
theorem VA {l:List Ak} {need:Int} (h:Nf l need=true):l.length≤4∧1≤need∧need≤l.length:=by
 unfold Nf at h;simp only[Bool.and_eq_true,decide_eq_true_eq] at h;exact⟨h.1.1.1,h.1.1.2,h.1.2⟩
theorem Lq {v:Int} (h:Ca v=true):0≤v∧v≤1073741824:=by
 unfold Ca at h;simp only[Bool.and_eq_true,decide_eq_true_eq] at h;exact h
theorem JQ {v:Int} (h:BE v=true):1≤v∧v≤1073741824:=by
 unfold BE at h;simp only[Bool.and_eq_true,decide_eq_true_eq] at h;exact h
theorem WT {t:Ad} (h:DX t=true):t.l.length≤12∧(0≤t.size∧t.size≤512)∧t.hw.length≤12∧(0≤t.ctr∧t.ctr≤1073741824)∧t.ecu.length≤12:=by
 unfold DX at h;simp only[Bool.and_eq_true,decide_eq_true_eq] at h;exact⟨CE h.1.1.1.1.1,⟨h.1.1.1.1.2,h.1.1.1.2⟩,CE h.1.1.2,Lq h.1.2,GS h.2⟩
theorem Ag0 {t:Ad} (h:DX t=true) (r:List UInt8):Dt ⟨NL t++r,false⟩=(t,⟨r,false⟩):=by
 obtain⟨h1,⟨h2,h3⟩,h4,⟨h5,h6⟩,h7⟩:=WT h;have e:NL t++r=Ap t.l++(Ae [t.size]++(t.sum.l++(Ap t.hw++(Ae [t.ctr]++(Ap t.ecu++r))))):=by simp[NL]
 have s1:=Iz t.l (Ae [t.size]++(t.sum.l++(Ap t.hw++(Ae [t.ctr]++(Ap t.ecu++r))))) (by omega);have s2:=Ed (v:=t.size) (by omega) (by omega) (t.sum.l++(Ap t.hw++(Ae [t.ctr]++(Ap t.ecu++r))));have s3:=Rx t.sum (Ap t.hw++(Ae [t.ctr]++(Ap t.ecu++r)));have s4:=Adk t.sum (Ap t.hw++(Ae [t.ctr]++(Ap t.ecu++r)));have s5:=Iz t.hw (Ae [t.ctr]++(Ap t.ecu++r)) (by omega);have s6:=Ed (v:=t.ctr) (by omega) (by omega) (Ap t.ecu++r);have s7:=Iz t.ecu r (by omega);unfold Dt;rw[e,s1,s2,s3,s4,s5,s6,s7];cases t;simp only[Int.toNat_of_nonneg h2,Int.toNat_of_nonneg h5] at*
theorem Aa1 {x:Pv} (h:UH x=true):x.1.length≤12∧Nf x.2.1.1 x.2.1.2=true∧x.2.2.1.length≤12:=by
 unfold UH at h;simp only[Bool.and_eq_true] at h;exact⟨CE h.1.1,h.1.2,GS h.2⟩
theorem Aa2 (b:Bool) (r:List UInt8):fgV ⟨Gl b++r,false⟩=b∧WA ⟨Gl b++r,false⟩=⟨r,false⟩:=by
 have hn:=Ed (v:=if b then 1 else 0) (by cases b<;>decide) (by cases b<;>decide) r;unfold fgV WA Gl;rw[hn];cases b
 ·exact⟨rfl,rfl⟩
 exact⟨rfl,rfl⟩
theorem Ag1 {x:Pv} (h:UH x=true) (r:List UInt8):Mz ⟨MA x++r,false⟩=(x,⟨r,false⟩):=by
 obtain⟨h1,h2,h3⟩:=Aa1 h;obtain⟨h4,h5,h6⟩:=VA h2;obtain⟨l,⟨ks,need⟩,pre,b⟩:=x
 dsimp only at h1 h2 h3 h4 h5 h6
 have e:MA (l,(ks,need),pre,b)++r=Ap l++(Du ks need++(Ap pre++(Gl b++r))):=by simp[MA]
 have s1:=Iz l (Du ks need++(Ap pre++(Gl b++r))) (by omega);obtain⟨s2,s3,s4⟩:=WS ks need h4 (by omega) (by omega) (Ap pre++(Gl b++r));have s5:=Iz pre (Gl b++r) (by omega);obtain⟨s6,s7⟩:=Aa2 b r;unfold Mz;rw[e,s1,s2,s3,s4,s5,s6,s7];have hz:(need.toNat:Int)=need:=Int.toNat_of_nonneg (by omega);simp only[hz]
end Go.Proofs.YtjjhceeookpieaaGreat
end
section
set_option maxRecDepth 100000
set_option maxHeartbeats 1600000
open Go Go.RowKit
namespace Go.Proofs.YtjjhceeookpieaaGreat
theorem FE (l:List UInt8):(Al l).size =l.length:=List.size_toArray ..
theorem Kn (a b:Ad) (w:World):Calls Tryz.prog 235 #[.agg (Af.enc a).toArray, .agg (Af.enc b).toArray] w fun e w'=>e= .returned (.bool (DK a b))∧Ag Ab w w':=by
 have hsa:(Af.enc a).toArray.size =37:=DB a;have hsb:(Af.enc b).toArray.size =37:=DB b;have hoa:=AY a;have hob:=AY b;obtain⟨R,hR⟩: ∃R,R=DK a b:=⟨_,rfl⟩;have HR0:Hid (R=(Op.bytesLess a.l b.l||(decide (a.l=b.l)&&Op.bytesLess a.ecu b.ecu))):=Lib.hid hR;rw[←hR];clear hR;obtain⟨Y,hY⟩: ∃Y,Y=Op.bytesLess a.l b.l:=⟨_,rfl⟩;obtain⟨Z,hZ⟩: ∃Z,Z=Op.bytesLess a.ecu b.ecu:=⟨_,rfl⟩;have h1:Op.bytesLess (Al a.l).toList (Al b.l).toList =Y:=by rw[AI,AI,hY]
 have h2:Op.bytesLess (Al a.ecu).toList (Al b.ecu).toList =Z:=by rw[AI,AI,hZ]
 by_cases hE:a.l=b.l
 ·have HF:Hid (R=Z):=Lib.hid (by rw[HR0.out,hE,EQ,←hZ];simp);have hn:((Al a.l).toList ==(Al b.l).toList)=true:=by rw[hE];simp
  clear hE hY hZ h1;go_enter Tryz.func235,Tryz.ntmps235;go_wp2_with (first|(refine WL 6 0 (Dn _) ?_)|(refine WL 8 0 (Dn _) ?_)|(refine WL 16 36 (EK _) ?_)|(refine WL 18 36 (EK _) ?_)|(refine Bv 2 ?_;intro za wza _ _ _)|(refine Bv 3 ?_;intro zb wzb _ _ _));go_ret;rw[HF.out];exact⟨rfl,Aa⟩
 have HF:Hid (R=Y):=Lib.hid (by rw[HR0.out,decide_eq_false hE,←hY];simp);have hn:((Al a.l).toList ==(Al b.l).toList)=false:=by
  rw[AI,AI,beq_eq_false_iff_ne];exact hE
 clear hE hY hZ h2;go_enter Tryz.func235,Tryz.ntmps235;go_wp2_with (first|(refine WL 6 0 (Dn _) ?_)|(refine WL 8 0 (Dn _) ?_)|(refine WL 11 0 (Dn _) ?_)|(refine WL 13 0 (Dn _) ?_)|(refine Bv 2 ?_;intro za wza _ _ _)|(refine Bv 3 ?_;intro zb wzb _ _ _));go_ret;rw[HF.out];exact⟨rfl,Aa⟩
def Gj (P:List Ad):Nat→Bool
 |0=>true
 |k+1=>Gj P k&&(DX (gt P k)&&(decide (k=0)||DK (gt P (k -1)) (gt P k)))
theorem Aa7 {α:Type} [Af α] (f:α→Bool) (P:List α) (k:Nat) (h:k<P.length):(P.take (k+1)).all f=((P.take k).all f&&f (gt P k)):=by
 rw[←List.take_append_getElem h,List.all_append];simp[gt,List.getD_eq_getElem?_getD,h]
theorem Tv (P:List Ad): ∀k,k≤P.length→Gj P k=((P.take k).all DX&&Fp P k)
 |0,_=>by simp[Gj,Fp]
 |k+1,h=>by
  rw[Gj,Tv P k (by omega),Aa7 DX P k (by omega),Fp];cases(P.take k).all DX<;>cases Fp P k<;>cases DX (gt P k)<;>simp
theorem Tw (P:List Ad) (k:Nat) (h:Gj P k=false): ∀n,k≤n→Gj P n=false
 |0,hn=>by
  obtain rfl:k=0:=by omega
  exact h
 |n+1,hn=>by
  by_cases e:k=n+1
  ·subst e;exact h
  rw[Gj,Tw P k h n (by omega),Bool.false_and]
def Fi (D:List Ax) (i:Nat):Nat→Bool
 |0=>true
 |k+1=>Fi D i k&&!decide ((gt D k).l =(gt D i).l)
theorem Qz (D:List Ax) (i k:Nat) (h:Fi D i k=false): ∀n,k≤n→Fi D i n=false
 |0,hn=>by
  obtain rfl:k=0:=by omega
  exact h
 |n+1,hn=>by
  by_cases e:k=n+1
  ·subst e;exact h
  rw[Fi,Qz D i k h n (by omega),Bool.false_and]
def FP (D:List Ax):Nat→Bool
 |0=>true
 |k+1=>FP D k&&(Fd (gt D k)&&Fi D k k)
theorem Tx (D:List Ax) (k:Nat) (h:FP D k=false): ∀n,k≤n→FP D n=false
 |0,hn=>by
  obtain rfl:k=0:=by omega
  exact h
 |n+1,hn=>by
  by_cases e:k=n+1
  ·subst e;exact h
  rw[FP,Tx D k h n (by omega),Bool.false_and]
theorem Tz (D:List Ax) (k:Nat) (h:k<D.length):gt (CR D) k=(gt D k).l :=by
 simp[CR,gt,List.getD_eq_getElem?_getD,h]
theorem QA (D:List Ax) (i:Nat): ∀k,k≤D.length→Fi D i k= !decide ((gt D i).l ∈(CR D).take k)
 |0,_=>by simp[Fi]
 |k+1,h=>by
  have hk:k<(CR D).length :=by rw[CR,List.length_map];omega
  have hg:=Tz D k (by omega);have e:(CR D).take (k+1)=(CR D).take k++[(gt D k).l]:=by
   rw[←List.take_append_getElem hk,←hg];simp[gt,List.getD_eq_getElem?_getD,hk]
  rw[Fi,QA D i k (by omega),e,Bool.eq_iff_iff];simp only[Bool.and_eq_true,Bool.not_eq_true',decide_eq_false_iff_not,List.mem_append,List.mem_singleton];exact⟨fun⟨a,b⟩ c=>c.elim a (fun c=>b c.symm),fun h=>⟨fun a=>h (.inl a),fun b=>h (.inr b.symm)⟩⟩
theorem TA (D:List Ax): ∀k,k≤D.length→FP D k=((D.take k).all Fd&&JG (CR D) k)
 |0,_=>by simp[FP,JG]
 |k+1,h=>by
  rw[FP,TA D k (by omega),Aa7 Fd D k (by omega),JG,QA D k k (by omega),Tz D k (by omega)];cases(D.take k).all Fd<;>cases JG (CR D) k<;>cases Fd (gt D k)<;>simp
theorem Yb (nm:List UInt8) (v e0:Int) (P:List Ad) (D:List Ax):DO nm v e0 P D=(Bl nm&&BE v&&Ca e0&&decide (P.length≤16)&&decide (D.length≤16)&&Gj P P.length&&FP D D.length):=by
 rw[Tv P _ (Nat.le_refl _),TA D _ (Nat.le_refl _),List.take_length,List.take_length,DO];cases Bl nm<;>cases BE v<;>cases Ca e0<;>cases decide (P.length≤16)<;>cases P.all DX<;>cases Fp P P.length<;>cases decide (D.length≤16)<;>cases D.all Fd<;>simp
end Go.Proofs.YtjjhceeookpieaaGreat
end
section
set_option maxRecDepth 100000
set_option maxHeartbeats 3200000
open Go Go.RowKit
namespace Go.Proofs.YtjjhceeookpieaaGreat
theorem Adq {w:World} {z:Nat} {x:Ad} {t:TypeId} (hb:HB w z t (Af.enc x).toArray):HR w (some ⟨z,2,none⟩) (bs x.sum.l):=⟨by
 have h1:=(hb.rdL.drop 2).take 32;rw[Sq] at h1;exact h1⟩
theorem Mf {w0 w:World} {A:Option Addr} {n c:Nat} {xs:List UInt8} (h:Co w0 w A n c xs):HO w 5 1 A n c (bs xs):=⟨h.own⟩
theorem PD (t:Ad) (ht:DX t=true) (w:World):
    Calls Tryz.prog 209 #[.agg (Af.enc t).toArray] w fun e w'=>∃A n c,e= .returned (.slice A n c)∧Ag Ab w w'∧HO w' 5 1 A n c (bs (NL t))∧Aj w A∧n≤200∧n=(NL t).length :=by
 obtain⟨a1,_,a3,_,a5⟩:=WT ht;have H1:Hid ((Ap t.l).length ≤21):=Lib.hid (by have:=GG t.l (by omega);omega);have H2:Hid ((Ae [t.size]).length ≤9):=Lib.hid (Az [t.size]);have H3:Hid ((Ap t.hw).length ≤21):=Lib.hid (by have:=GG t.hw (by omega);omega);have H4:Hid ((Ae [t.ctr]).length ≤9):=Lib.hid (Az [t.ctr]);have H5:Hid ((Ap t.ecu).length ≤21):=Lib.hid (by have:=GG t.ecu (by omega);omega);have HE:Hid (NL t=Ap t.l++Ae [t.size]++t.sum.l++Ap t.hw++Ae [t.ctr]++Ap t.ecu):=Lib.hid (by simp[NL]);have hx1:t.l.length≤1000000000:=by omega
 have hx3:t.hw.length≤1000000000:=by omega
 have hx5:t.ecu.length≤1000000000:=by omega
 have hsz:(Af.enc t).toArray.size =37:=DB t;have hon:=AY t;rw[HE.out];clear ht a1 a3 a5;go_enter Tryz.func209,Tryz.ntmps209;go_wp2_with (first|(refine Bv 1 ?_;intro zt wzt _ _ _));have n1:Nw w wzt:=inferInstance;have hb1:HB wzt zt 44 (Af.enc t).toArray :=inferInstance;refine Ah (Ab) (by kernel_rfl) (fun wd _ _=> ?_);refine YS 0 ?_;refine IS 1 0 (Dn _) ?_;refine YS 3 ?_;refine IS 4 1 (El _) ?_;refine Yg 2 fun K_ hK_=> ?_
 go_simp;refine(EC (Al t.l) t.l rfl hx1 _).mono ?_;rintro e w6 ⟨A6,n6,c6,rfl,hF⟩;have st6:Ag Ab _ w6:=⟨hF.out.chg⟩;have hA6:Aj wzt A6:=⟨fun ad e=>Nat.le_trans (Aa (w0:=wzt)).chg.size (hF.out.new ad e)⟩;have hA6d:Aj wd A6:=⟨fun ad e=>Nat.le_trans (Aa (w0:=wd)).chg.size (hF.out.new ad e)⟩;have ho6:HO w6 5 1 A6 n6 c6 (bs (Ap t.l)):=Mf hF.out;have HN6:Hid (n6=(Ap t.l).length):=Lib.hid hF.out.len;have hn6:n6≤21:=by
  have:=HN6.out;have:=H1.out;omega
 clear hF;refine Yz hK_ ?_;clear hK_ K_;refine Yg 5 fun K_ hK_=> ?_
 go_simp;refine(CQ t.size _).mono ?_;rintro e w7 ⟨A7,n7,c7,rfl,hF⟩;have st7:Ag Ab _ w7:=⟨hF.out.chg⟩;have hr7:HR w7 A7 (bs (Ae [t.size])):=⟨by rw[Bk];exact hF.out.own.rd⟩;have hl7:(Ae [t.size]).length =n7:=by rw[Bk];exact hF.out.len.symm
 have HN7:Hid (n7=(Ae [t.size]).length):=Lib.hid hl7.symm;have hn7:n7≤9:=by
  have:=H2.out;omega
 clear hF;refine Yz hK_ ?_;clear hK_ K_;refine Yh 6 fun K_ hK_=> ?_
 (first|(refine NO ?_;intro A' c' wa _ _ _ hcap)|(refine XF ?_;intro A' c' wa _ _ _ hcap)|(refine WAR Ad ?_;intro A' c' wa _ _ _ hcap))
 refine Yn hK_ ?_;clear hK_ K_;refine YS 7 ?_;refine Yd ?_;go_wp2_with fail;have hAa:Aj w A':=Aj.monoS (inferInstance:Aj wd A');have st3:Ag Ab w wa:=Aa;have hoa:HO wa 5 1 A' (n6+n7) c' (bs (Ap t.l++Ae [t.size])):=inferInstance;have hb3:HB wa zt 44 (Af.enc t).toArray :=inferInstance;have hrt:HR wa (some ⟨zt,2,none⟩) (bs t.sum.l):=Adq hb3;have hsl:t.sum.l.length=32:=t.sum.len;refine Ah ((An A')) (by kernel_rfl) (fun wd _ _=> ?_);refine YS 0 ?_;refine YS 1 ?_;refine' tk 2 _ rfl (by kernel_rfl) (by kernel_rfl) (by kernel_rfl) (fun _ _ _ h=>h) (yo (by rfl) fun w' _=> ?_) inferInstance ?_;rotate_left
 ·((apply(Pq (m:=32) (e:=5)));exact rfl;exact Tryz.underlying23;(kernel_rfl))
 try simp only[Act.put,sA,sB,sC]
 refine YS 4 ?_;refine IS 5 34 (Gg _) ?_;refine Yh 3 fun K_ hK_=> ?_
 (first|(refine NO ?_;intro A' c' wa _ _ _ hcap)|(refine XF ?_;intro A' c' wa _ _ _ hcap)|(refine WAR Ad ?_;intro A' c' wa _ _ _ hcap))
 refine Yn hK_ ?_;clear hK_ K_;refine Yg 6 fun K_ hK_=> ?_
 go_simp;refine(EC (Al t.hw) t.hw rfl hx3 _).mono ?_;rintro e w9 ⟨A9,n9,c9,rfl,hF⟩;have st9:Ag Ab _ w9:=⟨hF.out.chg⟩;have hr9:HR w9 A9 (bs (Ap t.hw)):=⟨hF.out.own.rd⟩;have HN9:Hid (n9=(Ap t.hw).length):=Lib.hid hF.out.len;have hl9:(Ap t.hw).length =n9:=hF.out.len.symm;have hn9:n9≤21:=by
  have:=H3.out;omega
 clear hF;refine Yz hK_ ?_;clear hK_ K_;refine Yh 7 fun K_ hK_=> ?_
 (first|(refine NO ?_;intro A' c' wa _ _ _ hcap)|(refine XF ?_;intro A' c' wa _ _ _ hcap)|(refine WAR Ad ?_;intro A' c' wa _ _ _ hcap))
 refine Yn hK_ ?_;clear hK_ K_;refine YS 8 ?_;refine Yd ?_
 all_goals
  go_wp2_with fail;have hoc:HO wa 5 1 A' (n6+n7+32+n9) c' (bs (Ap t.l++Ae [t.size]++t.sum.l++Ap t.hw)):=inferInstance;have hAc:Aj w A':=inferInstance;have stc:Ag Ab w wa:=Aa;have hbc:HB wa zt 44 (Af.enc t).toArray :=inferInstance;have HLC:Hid (n6+n7+32+n9=(Ap t.l++Ae [t.size]++t.sum.l++Ap t.hw).length):=Lib.hid (by rw[List.length_append,List.length_append,List.length_append,←HN6.out,←HN7.out,←HN9.out,t.sum.len]);have hnc:n6+n7+32+n9≤83:=by omega
  clear hn6 hn7 hn9 hl7 hl9 hsl hoa hAa;generalize n6+n7+32+n9=N2 at*;generalize wa=w2 at*;generalize A'=A2 at*;generalize c'=c2 at*;obtain⟨X2,hX2⟩: ∃X,X=Ap t.l++Ae [t.size]++t.sum.l++Ap t.hw:=⟨_,rfl⟩;rw[←hX2] at hoc HLC;have HX2:=Lib.hid hX2;clear hX2;refine Ah ((An A2)) (by kernel_rfl) (fun wd _ _=> ?_);refine YS 0 ?_;refine YS 1 ?_;refine IS 2 35 (IK _) ?_;refine YS 5 ?_;refine IS 6 36 (EK _) ?_;refine Yg 3 fun K_ hK_=> ?_
  go_simp;refine(CQ t.ctr _).mono ?_;rintro e w10 ⟨A10,n10,c10,rfl,hF⟩;have st10:Ag Ab _ w10:=⟨hF.out.chg⟩;have hr10:HR w10 A10 (bs (Ae [t.ctr])):=⟨by rw[Bk];exact hF.out.own.rd⟩;have hl10:(Ae [t.ctr]).length =n10:=by rw[Bk];exact hF.out.len.symm
  have HN10:Hid (n10=(Ae [t.ctr]).length):=Lib.hid hl10.symm;have hn10:n10≤9:=by
   have:=H4.out;omega
  clear hF;refine Yz hK_ ?_;clear hK_ K_;refine Yh 4 fun K_ hK_=> ?_
  (first|(refine NO ?_;intro A' c' wa _ _ _ hcap)|(refine XF ?_;intro A' c' wa _ _ _ hcap)|(refine WAR Ad ?_;intro A' c' wa _ _ _ hcap))
  refine Yn hK_ ?_;clear hK_ K_;refine Yg 7 fun K_ hK_=> ?_
  go_simp;refine(EC (Al t.ecu) t.ecu rfl hx5 _).mono ?_;rintro e w11 ⟨A11,n11,c11,rfl,hF⟩;have st11:Ag Ab _ w11:=⟨hF.out.chg⟩;have hr11:HR w11 A11 (bs (Ap t.ecu)):=⟨hF.out.own.rd⟩;have HN11:Hid (n11=(Ap t.ecu).length):=Lib.hid hF.out.len;have hl11:(Ap t.ecu).length =n11:=hF.out.len.symm;have hn11:n11≤21:=by
   have:=H5.out;omega
  clear hF;refine Yz hK_ ?_;clear hK_ K_;refine Yh 8 fun K_ hK_=> ?_
  (first|(refine NO ?_;intro A' c' wa _ _ _ hcap)|(refine XF ?_;intro A' c' wa _ _ _ hcap)|(refine WAR Ad ?_;intro A' c' wa _ _ _ hcap))
  refine Yn hK_ ?_;clear hK_ K_;refine YS 9 ?_;refine Yd ?_
  all_goals
   go_wp2_with fail;go_ret;refine⟨A',N2+n10+n11,c',rfl,Aa, ?_,inferInstance,by omega, ?_⟩
   ·have hO:HO wa 5 1 A' (N2+n10+n11) c' (bs (X2++Ae [t.ctr]++Ap t.ecu)):=inferInstance;rw[←HX2.out];exact hO
   rw[←HX2.out,List.length_append,List.length_append,←HLC.out,←HN10.out,←HN11.out]
end Go.Proofs.YtjjhceeookpieaaGreat
end
section
set_option maxRecDepth 100000
set_option maxHeartbeats 3200000
open Go Go.RowKit
namespace Go.Proofs.YtjjhceeookpieaaGreat
theorem Adr (w:World):(Instr.buildSlice 55 1 #[(0, .int .u8 1)]).run Tryz.prog w= .ok (.slice (some ⟨w.heap.size,0,none⟩) 1 1) (w.alloc (.cells #[.int .u8 1] 5)):=by kernel_rfl
theorem Ads (w:World):(Instr.buildSlice 55 1 #[(0, .int .u8 0)]).run Tryz.prog w= .ok (.slice (some ⟨w.heap.size,0,none⟩) 1 1) (w.alloc (.cells #[.int .u8 0] 5)):=by kernel_rfl
theorem HR.byteT {w:World} {z:Nat} (h:HB w z 5 #[.int .u8 1]):HR w (some ⟨z,0,none⟩) (bs [1]):=⟨h.rdL⟩
theorem HR.byteF {w:World} {z:Nat} (h:HB w z 5 #[.int .u8 0]):HR w (some ⟨z,0,none⟩) (bs [0]):=⟨h.rdL⟩
theorem Aa8 (b:Bool):Gl b=[if b then 1 else 0]:=by
 unfold Gl;rw[Bk];cases b
 ·rw[show CB (if false=true then 1 else 0)=0 from rfl,Fa (by decide)];rfl
 rw[show CB (if true=true then 1 else 0)=1 from rfl,Fa (by decide)];rfl
theorem TB (x:Ax) (hx:Fd x=true) {w:World} (hi:FG w x):
    Calls Tryz.prog 210 #[.agg (Af.enc x).toArray] w fun e w'=>∃A n c,e= .returned (.slice A n c)∧Ag Ab w w'∧HO w' 5 1 A n c (bs (Xr x))∧Aj w A∧n≤300∧n=(Xr x).length :=by
 have hin:x.l.length≤12∧Nf x.k.l x.k.need=true∧x.pre.length≤12:=by
  have h:=hx;unfold Fd at h;simp only[Bool.and_eq_true] at h;exact⟨CE h.1.1,h.1.2,GS h.2⟩
 obtain⟨a1,a2,a3⟩:=hin;obtain⟨b1,b2,b3⟩:=VA a2;have hk4:x.k.n≤4:=by have:=hi.len;omega
 have H1:Hid ((Ap x.l).length ≤21):=Lib.hid (by have:=GG x.l (by omega);omega);have H3:Hid ((Ap x.pre).length ≤21):=Lib.hid (by have:=GG x.pre (by omega);omega);obtain⟨F0,hF0⟩: ∃F:UInt8,F=if x.last then 1 else 0:=⟨_,rfl⟩;have HF0:=Lib.hid hF0;have HE:Hid (Xr x=Ap x.l++Du x.k.l x.k.need++Ap x.pre++[F0]):=Lib.hid (by rw[hF0,←Aa8];simp[Xr]);have hx1:x.l.length≤1000000000:=by omega
 have hx3:x.pre.length≤1000000000:=by omega
 have hsz:(Af.enc x).toArray.size =5:=rfl;have hon:=AY x;have HI:=Lib.hid hi;have hkn:x.k.n≤1000:=by omega
 rw[HE.out];clear hx a1 a2 a3 b1 b2 b3 hi hF0;go_enter Tryz.func210,Tryz.ntmps210;go_wp2_with (first|(refine Bv 1 ?_;intro zt wzt _ _ _));have hb1:HB wzt zt 213 (Af.enc x).toArray :=inferInstance;refine Ah (Ab) (by kernel_rfl) (fun wd _ _=> ?_);refine YS 0 ?_;refine IS 1 0 rfl ?_;refine YS 3 ?_;refine' tk 4 _ rfl (by kernel_rfl) (by kernel_rfl) (by kernel_rfl) (fun _ _ _ h=>h) (yo (by rfl) fun w' _=> ?_) inferInstance ?_;rotate_left
 ·((apply Ab6);exact rfl;infer_instance;infer_instance;exact Xs _;exact rfl;(decide))
 try simp only[Act.put,sA,sB,sC]
 refine YS 7 ?_;refine IS 8 3 rfl ?_;refine Yg 2 fun K_ hK_=> ?_
 go_simp;refine(EC (Al x.l) x.l rfl hx1 _).mono ?_;rintro e w6 ⟨A6,n6,c6,rfl,hF⟩;have st6:Ag Ab _ w6:=⟨hF.out.chg⟩;have hA6:Aj wzt A6:=⟨fun ad e=>Nat.le_trans (Aa (w0:=wzt)).chg.size (hF.out.new ad e)⟩;have hA6d:Aj wd A6:=⟨fun ad e=>Nat.le_trans (Aa (w0:=wd)).chg.size (hF.out.new ad e)⟩;have ho6:HO w6 5 1 A6 n6 c6 (bs (Ap x.l)):=Mf hF.out;have HN6:Hid (n6=(Ap x.l).length):=Lib.hid hF.out.len;have hn6:n6≤21:=by
  have:=HN6.out;have:=H1.out;omega
 clear hF;refine Yz hK_ ?_;clear hK_ K_;refine Yg 5 fun K_ hK_=> ?_
 go_simp;have hrk:HR w6 x.k.A (cellsOf x.k.l):=⟨HI.out.rd.later (Aa (w0:=w)).chg⟩;refine(Np (l:=x.k.l) x.k.need HI.out.len hkn).mono ?_;rintro e w7 ⟨A7,n7,c7,rfl,st7,hO7,_,hn7⟩;have hr7:HR w7 A7 (bs (Du x.k.l x.k.need)):=⟨hO7.out.rd⟩;have hl7:(Du x.k.l x.k.need).length =n7:=by
  have h9:=hO7.out.len;rw[Am] at h9;omega
 have HN7:Hid (n7=(Du x.k.l x.k.need).length):=Lib.hid hl7.symm;have hn7':n7≤146:=by omega
 clear hO7;refine Yz hK_ ?_;clear hK_ K_;refine Yh 6 fun K_ hK_=> ?_
 (first|(refine NO ?_;intro A' c' wa _ _ _ hcap)|(refine XF ?_;intro A' c' wa _ _ _ hcap)|(refine WAR Ax ?_;intro A' c' wa _ _ _ hcap))
 refine Yn hK_ ?_;clear hK_ K_;refine Yg 9 fun K_ hK_=> ?_
 go_simp;refine(EC (Al x.pre) x.pre rfl hx3 _).mono ?_;rintro e w9 ⟨A9,n9,c9,rfl,hF⟩;have st9:Ag Ab _ w9:=⟨hF.out.chg⟩;have hr9:HR w9 A9 (bs (Ap x.pre)):=⟨hF.out.own.rd⟩;have HN9:Hid (n9=(Ap x.pre).length):=Lib.hid hF.out.len;have hl9:(Ap x.pre).length =n9:=hF.out.len.symm;have hn9:n9≤21:=by
  have:=H3.out;omega
 clear hF;refine Yz hK_ ?_;clear hK_ K_;refine Yh 10 fun K_ hK_=> ?_
 (first|(refine NO ?_;intro A' c' wa _ _ _ hcap)|(refine XF ?_;intro A' c' wa _ _ _ hcap)|(refine WAR Ax ?_;intro A' c' wa _ _ _ hcap))
 refine Yn hK_ ?_;clear hK_ K_;refine YS 11 ?_;refine Yd ?_
 all_goals
  have hAa:Aj w A':=Aj.monoS (inferInstance:Aj wd A');have st3:Ag Ab w wa:=Aa;have hoa:HO wa 5 1 A' (n6+n7+n9) c' (bs (Ap x.l++Du x.k.l x.k.need++Ap x.pre)):=inferInstance;have hb3:HB wa zt 213 (Af.enc x).toArray :=inferInstance;have HLN:Hid (n6+n7+n9=(Ap x.l++Du x.k.l x.k.need++Ap x.pre).length):=Lib.hid (by rw[List.length_append,List.length_append,←HN6.out,←HN7.out,←HN9.out]);have hn:n6+n7+n9≤188:=by omega
  clear hn6 hn7 hn9 hn7' hl7 hl9;generalize n6+n7+n9=N at*;generalize wa=w1 at*;generalize A'=A1 at*;generalize c'=c1 at*;have hl1:([1]:List UInt8).length =1:=rfl;have hl0:([0]:List UInt8).length =1:=rfl;cases hlast:x.last
  case true=>
   have hcl:Eg (Af.enc x) 4=some (.bool true):=by rw[←hlast];rfl
   have HFB:Hid (F0=1):=Lib.hid (by rw[HF0.out,hlast];rfl);have HCL:=Lib.hid hcl;clear hcl;clear hlast;go_wp2_with (first|(refine SS 4 hb3 HCL.out ?_)|((with_reducible apply(Bu (dst:=some 18)));(with_reducible apply Iw);exact Adr _;intro zb wb _ _ _;have hbr:HR wb (some ⟨zb,0,none⟩) (bs [1]):=HR.byteT inferInstance)|((with_reducible apply GY);exact rfl;exact rfl;infer_instance;infer_instance;infer_instance;exact hl1;omega;intro A2 c2 wx _ _ _ _));go_ret;refine⟨A2,N+1,c2,rfl,Aa, ?_,inferInstance,by omega, ?_⟩
   ·rw[HFB.out];have hO:HO wx 5 1 A2 (N+1) c2 (bs (Ap x.l++Du x.k.l x.k.need++Ap x.pre++[1])):=inferInstance;exact hO
   have h9:=HLN.out;simp only[List.length_append,List.length_cons,List.length_nil] at h9⊢;omega
  case false=>
   have hcl:Eg (Af.enc x) 4=some (.bool false):=by rw[←hlast];rfl
   have HFB:Hid (F0=0):=Lib.hid (by rw[HF0.out,hlast];rfl);have HCL:=Lib.hid hcl;clear hcl;clear hlast;go_wp2_with (first|(refine SS 4 hb3 HCL.out ?_)|((with_reducible apply(Bu (dst:=some 21)));(with_reducible apply Iw);exact Ads _;intro zb wb _ _ _;have hbr:HR wb (some ⟨zb,0,none⟩) (bs [0]):=HR.byteF inferInstance)|((with_reducible apply GY);exact rfl;exact rfl;infer_instance;infer_instance;infer_instance;exact hl0;omega;intro A2 c2 wx _ _ _ _));go_ret;refine⟨A2,N+1,c2,rfl,Aa, ?_,inferInstance,by omega, ?_⟩
   ·rw[HFB.out];have hO:HO wx 5 1 A2 (N+1) c2 (bs (Ap x.l++Du x.k.l x.k.need++Ap x.pre++[0])):=inferInstance;exact hO
   have h9:=HLN.out;simp only[List.length_append,List.length_cons,List.length_nil] at h9⊢;omega
end Go.Proofs.YtjjhceeookpieaaGreat
end
