/- FwM -/
import Derived.Test.YtjjhceeookpieaaGreatUhZ
import Derived.Test.YtjjhceeookpieaaGreatUhTgD
import Derived.Test.YtjjhceeookpieaaGreatUhWyQ
import Derived.Test.YtjjhceeookpieaaGreatUhQmA
set_option maxRecDepth 100000
set_option maxHeartbeats 3200000
open Go Go.RowKit
namespace Go.Proofs.YtjjhceeookpieaaGreat
def VB (a b:Ad):Bool:=((Al a.l).toList ==(Al b.l).toList)&&((a.size==b.size)&&(decide (a.sum=b.sum)&&(((Al a.hw).toList ==(Al b.hw).toList)&&((a.ctr==b.ctr)&&((Al a.ecu).toList ==(Al b.ecu).toList)))))
theorem WW (a:Ad):(((Af.enc a).toArray.toList.drop 2).take 32)=(Aw a.sum.l).toList :=by
 show((Af.enc a).drop 2).take 32=_;rw[Sq];simp[Aw]
theorem Yi (a b:Ad) (w:World):(binOp .neq 44 (.agg (Af.enc a).toArray) (.agg (Af.enc b).toArray)).run Tryz.prog w= .ok (.bool (!VB a b)) w:=by
 rw[run_neq_struct];have key:(Op.equalIn (9999+1) 44 (.agg (Af.enc a).toArray) (.agg (Af.enc b).toArray)).run Tryz.prog w= .ok (VB a b) w:=by
  rw[run_equalIn_struct w 9999 44 _ _ (by kernel_rfl) (by kernel_rfl)];rw[Program.fieldsOf,Tryz.underlying44];unfold VB;refine GF (by decide) (Dw (t:=9) (Dn _) w) (Dw (t:=9) (Dn _) w) (run_equalIn_string w 9998 9 _ _ Tryz.underlying9) ?_;refine GF (by decide) (Dw (t:=3) (El _) w) (Dw (t:=3) (El _) w) (run_equalIn_int w 9998 3 _ _ _ _ Tryz.underlying3) ?_;refine GF (by decide) (Rj (t:=23) (n:=32) (WW a) w) (Rj (t:=23) (n:=32) (WW b) w) ?_ ?_
  ·rw[←ZC];exact run_equalIn_bytes (P:=Tryz.prog) w 9997 23 5 32 Tryz.underlying23 Tryz.underlying5 Tryz.sizeOf5 a.sum.l b.sum.l a.sum.len b.sum.len
  refine GF (by decide) (Dw (t:=9) (Gg _) w) (Dw (t:=9) (Gg _) w) (run_equalIn_string w 9998 9 _ _ Tryz.underlying9) ?_;refine GF (by decide) (Dw (t:=3) (IK _) w) (Dw (t:=3) (IK _) w) (run_equalIn_int w 9998 3 _ _ _ _ Tryz.underlying3) ?_;rw[←Bool.and_true ((Al a.ecu).toList ==(Al b.ecu).toList)];refine GF (by decide) (Dw (t:=9) (EK _) w) (Dw (t:=9) (EK _) w) (run_equalIn_string w 9998 9 _ _ Tryz.underlying9) ?_;rfl
 show((Op.equalIn 10000 44 (.agg (Af.enc a).toArray) (.agg (Af.enc b).toArray)).run Tryz.prog w).andThen _=_;rw[show(Op.equalIn 10000 44 (.agg (Af.enc a).toArray) (.agg (Af.enc b).toArray)).run Tryz.prog w= .ok (VB a b) w from key];rfl
theorem Yj (a:Ad):VB a a=true:=by simp[VB]
theorem Od {A B:Option Addr} {n c c2:Nat} {P:List Ad} {w:World} [hr:HR w A (cellsOf P)] [hr2:HR w B (cellsOf P)] (hl:P.length=n) (hm:n≤1000000000):
    Calls Tryz.prog 14 #[.slice A n c, .slice B n c2] w fun e w'=>e= .returned (.bool true)∧Ag Ab w w':=by
 have hnq: ∀(a:Ad) (w:World),(binOp .neq 44 (.agg (Af.enc a).toArray) (.agg (Af.enc a).toArray)).run Tryz.prog w= .ok (.bool false) w:=fun a w=>by rw[Yi,Yj];rfl
 have q3:((n:Int)!=(n:Int))=false:=by simp
 go_enter Tryz.func14,Tryz.ntmps14;go_wp2_with fail;go_loopw [5] (fun iv wr=>∃k:Nat,k≤n∧iv= .int .i64 (k:Int)∧Ag Ab w wr) (fun iv _=>n -(intOf iv).toNat)
 case atStart=>exact⟨0,Nat.zero_le _,rfl,Aa⟩
 case round=>
  obtain⟨k,hk,rfl,st⟩:=hrel;have nr:Nw w wr:=⟨st.chg⟩;have hra:HR wr A (cellsOf P):=inferInstance;have hrb:HR wr B (cellsOf P):=inferInstance;by_cases hlt:k<n
  ·have hltI:(k:Int)<n:=by omega
   have hkl:k<P.length:=by omega
   go_wp2_with fail;refine Ah (Ab) (by kernel_rfl) (fun wd _ _=> ?_);refine YS 0 ?_;refine YS 1 ?_;refine Gx 2 Ad 63 ?_;refine Vc 3 Ad 44 ?_;refine YS 4 ?_;refine YS 5 ?_;refine Gx 6 Ad 63 ?_;refine Vc 7 Ad 44 ?_;refine YS 8 ?_;refine Yd ?_;go_wp2_with fail;exact⟨⟨k+1,by omega,by go_num,Aa⟩,by simp[intOf];omega⟩
  have hltI: ¬(k:Int)<n:=by omega
  go_wp2_with fail;go_ret;exact⟨rfl,Aa⟩
end Go.Proofs.YtjjhceeookpieaaGreat
