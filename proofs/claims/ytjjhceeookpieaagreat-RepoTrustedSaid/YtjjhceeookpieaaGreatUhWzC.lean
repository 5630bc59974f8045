/- WzC -/
import Derived.Test.YtjjhceeookpieaaGreatUhZ
import Derived.Test.YtjjhceeookpieaaGreatUhTy
import Derived.Test.YtjjhceeookpieaaGreatUhOcEl
import Derived.Test.YtjjhceeookpieaaGreatUhConv
set_option maxRecDepth 100000
set_option maxHeartbeats 1600000
open Go Go.RowKit
namespace Go.Proofs.YtjjhceeookpieaaGreat
theorem Hk {g d:Nat} {s:RS} {w:World} (hw:Bn w g d s) (hl:s.b.length≤140737488351232):
    Calls Tryz.prog 143 #[.pointer (some ⟨g,0,none⟩)] w fun e w'=>e= .returned (.agg (Aw s.hsh.l))∧Ag (only g) w w'∧Hid (Bn w' g d (s.raw 32).2):=by
 have HW0:=Lib.hid hw;have hgl:=hw.lt;have hdl:=hw.dlt;obtain⟨hsh,hhs⟩: ∃x,x=s.hsh:=⟨_,rfl⟩;have HHS:=Lib.hid hhs;rw[←hhs];clear hw hhs;go_enter Tryz.func143,Tryz.ntmps143;go_wp2_with (first|(refine BB 2 ?_;intro zo wzo _ _ _)|(refine BB 3 ?_;intro zh wzh _ _ _));have st0:Ag Ab w wzh:=Aa;have hzh:w.heap.size≤zh:=(Aj.monoS (w0:=w) (Aj.of_born (z:=zh) 0)).out ⟨zh,0,none⟩ rfl;have hzo:w.heap.size≤zo:=(Aj.monoS (w0:=w) (Aj.of_born (z:=zo) 0)).out ⟨zo,0,none⟩ rfl;have og:As (only g) zh:=⟨fun e=>by have e':zh=g:=e;omega⟩;have ogo:As (only g) zo:=⟨fun e=>by have e':zo=g:=e;omega⟩;have oho:As (only zh) zo:=inferInstance;refine Ah ((GE g zh)) (by kernel_rfl) (fun wd _ _=> ?_);refine YS 0 ?_;refine YS 1 ?_;refine Yg 2 fun K_ hK_=> ?_
 go_simp;refine(JB g d s 32 wd ((HW0.out.chg st0.chg (fun h=>h) (fun h=>h)).chg (Aa (w0:=wzh) (w:=wd)).chg (fun h=>h) (fun h=>h)) (by omega)).mono ?_;rintro e w5 ⟨A5,n5,c5,rfl,hn5,ho5,h5,cc5,hA5⟩;have st5:Ag (only g) wd w5:=⟨cc5.out⟩;have hr5:HR w5 A5 (bs (s.raw 32).1):=⟨ho5.out.rd⟩;have hle5:n5≤32:=by
  have:=hn5.out;rcases s.raw_c with h|h
  ·omega
  rw[h] at this;simp at this;omega
 have hfit5:0+n5≤Aq.l.length:=by rw[Ak.len];omega
 refine Yz hK_ ?_;clear hK_ K_;refine Yh 3 fun K_ hK_=> ?_
 (first|((with_reducible apply Ia);exact Tryz.underlying55;(kernel_rfl);exact rfl;exact rfl;infer_instance;exact hr5;exact hn5.out.symm;exact hle5;exact hfit5;intro wc _ hbc)|((with_reducible apply Ia);exact Tryz.underlying55;(kernel_rfl);exact rfl;exact rfl;infer_instance;infer_instance;(first|(with_reducible assumption)|(with_reducible exact Ak.len _)|(focus (simp;done)));(first|(with_reducible assumption)|omega);(first|(with_reducible assumption)|omega|(focus (simp;done))|(focus (simp;omega;done))|decide);intro wc _ _))
 refine Yn hK_ ?_;clear hK_ K_;refine Yd ?_;rw[s.hsh_copy n5 hn5.out,←HHS.out] at hbc;have stg:Hid (Au (GE g zh) w wc):=Lib.hid ((st0.chg.mono (T:=GE g zh) (fun _ _ h=>h.elim)).trans (((Aa (w0:=wzh) (w:=wd)).chg.mono (T:=GE g zh) (fun _ _ h=>h.elim)).trans ((cc5.out.mono (T:=GE g zh) (fun _ _ h=> .inl h)).trans ((inferInstance:Ag (only zh) w5 wc).chg.mono (T:=GE g zh) (fun _ _ h=> .inr h)) (fun _ _ h=>h)) (fun _ _ h=>h)) (fun _ _ h=>h));have HR2:Hid (Bn wc g d (s.raw 32).2):=Lib.hid (h5.out.chg2 (inferInstance:Ag (only zh) w5 wc).chg (fun e=>by have e':g=zh:=e;omega) (fun hne e=>by
  have e':d=zh:=e;have:=hdl (fun h0=>hne (List.eq_nil_of_length_eq_zero (by have:=s.raw_l 32;rw[h0] at this;simpa using this)));omega))
 have hzoc:HB wc zo 23 (Aw Aq.l):=inferInstance;go_wp2_with (first|(refine Cp ?_)|(refine Bt ?_;intro ws _ _));refine Bo rfl rfl (n:=32) (Ak.size _) rfl ?_;refine⟨rfl,⟨(stg.out.mono (T:=only g) (fun x hx h=> ?_)).trans (inferInstance:Ag (only zo) wc ws).chg (fun x hx h=> ?_)⟩,Lib.hid (HR2.out.chg2 (inferInstance:Ag (only zo) wc ws).chg (fun e=> ?_) (fun hne e=> ?_))⟩
 ·rcases h with h|h
  ·exact h
  omega
 ·have h':x=zo:=h;omega
 ·have e':g=zo:=e;omega
 have e':d=zo:=e;have:=hdl (fun h0=>hne (List.eq_nil_of_length_eq_zero (by have:=s.raw_l 32;rw[h0] at this;simpa using this)));omega
theorem Bn.at_ (w:World) (z:Nat) {A:Option Addr} {n c:Nat} {b:List UInt8} (hb:HB w z 241 #[.slice A n c, .bool false]) (hr:Rd w A (bs b)) (hn:b.length=n) (hc:n≤c) (hz:b≠[]→∀ad,A=some ad→ad.block≠z): ∃d,Bn w z d ⟨b,false⟩∧(b≠[]→∃ad,A=some ad∧ad.block=d):=by
 by_cases h0:b=[]
 ·exact⟨z+1,⟨⟨A,n,c,hn.symm,hc,hb.out,hr,fun ad e h=>absurd h0 h⟩,by omega,fun h=>by cases h⟩,fun h=>absurd h0 h⟩
 obtain⟨ad,e,_⟩:=hr.lt (by rw[Am];exact List.length_pos_iff.2 h0);exact⟨ad.block,⟨⟨A,n,c,hn.symm,hc,hb.out,hr,fun ad' e' _=>by rw[e] at e';injection e' with e';rw[e']⟩,hz h0 ad e,fun h=>by cases h⟩,fun _=>⟨ad,e,rfl⟩⟩
theorem FL {A:Option Addr} {n c kind:Nat} {b:List UInt8} {w:World} [hr:HR w A (bs b)] (hl:b.length=n) (hcap:n≤c) (hn:n≤140737488351232):
    Calls Tryz.prog 139 #[.slice A n c, .int .i64 (kind:Int)] w fun e w'=>∃z d,e= .returned (.pointer (some ⟨z,0,none⟩))∧Ag Ab w w'∧w.heap.size≤z∧z<w'.heap.size∧Hid (Bn w' z d (AO kind b))∧(b≠[]→d<w.heap.size):=by
 have kbR: ∀w,(Instr.build 241 #[(0, .slice A n c)]).run Tryz.prog w= .ok (.agg #[.slice A n c, .bool false]) w:=fun _=>by kernel_rfl
 have HLE:=Lib.hid hl;have HRR:=Lib.hid hr.out;obtain⟨q,hq⟩: ∃q,q=(⟨b,false⟩:RS).num.1 :=⟨_,rfl⟩;have HQ:=Lib.hid hq;have hS:AO kind b=if q=kind then(⟨b,false⟩:RS).num.2 else RS.bad:=by rw[hq];rfl
 have HS:=Lib.hid hS;clear hq hS;go_enter Tryz.func139,Tryz.ntmps139;go_wp2_with (first|(refine Ji (kbR _) ?_)|(refine Bv 8 ?_;intro zr wzr _ _ _));have st0:Ag Ab w wzr:=Aa;have hzr:w.heap.size≤zr:=(Aj.monoS (w0:=w) (Aj.of_born (z:=zr) 0)).out ⟨zr,0,none⟩ rfl;obtain⟨d,hRR,hd0⟩:=Bn.at_ wzr zr (inferInstance:HB wzr zr 241 #[.slice A n c, .bool false]) (HRR.out.later st0.chg) HLE.out hcap (fun hne ad e h=>by
  have h1:=DC HRR.out (by simpa[bs] using hne) e;omega)
 have hdw:b≠[]→d<w.heap.size:=fun hne=>by
  obtain⟨ad,e,h2⟩:=hd0 hne;rw[←h2];exact DC HRR.out (by simpa[bs] using hne) e
 refine(AV zr d ⟨b,false⟩ wzr hRR (by have h1:=HLE.out;show b.length≤140737488351232;omega)).mono ?_;rw[←HQ.out];rintro e w5 ⟨rfl,h5,c5⟩;have st5:Ag (only zr) wzr w5:=⟨c5.out⟩;have n5:Nw w w5:=inferInstance;have hlt5:=h5.out.lt;by_cases hqk:q=kind
 ·have e1:((q:Int)!=(kind:Int))=false:=by simp[hqk]
  go_wp2_with fail;go_ret;refine⟨zr,d,rfl,⟨?_⟩,hzr,hlt5, ?_,hdw⟩
  ·exact n5.out
  rw[HS.out,if_pos hqk];exact h5
 have e1:((q:Int)!=(kind:Int))=true:=by simp;omega
 go_wp2_with fail;refine(Ey zr d _ _ h5.out).mono ?_;rintro e w6 ⟨rfl,h6,c6⟩;have st6:Ag (only zr) w5 w6:=⟨c6.out⟩;have n6:Nw w w6:=inferInstance;have hlt6:=h6.out.lt;go_wp2_with fail;go_ret;refine⟨zr,d,rfl,⟨n6.out⟩,hzr,hlt6, ?_,hdw⟩;rw[HS.out,if_neg hqk];exact h6
theorem DP {g d:Nat} {s:RS} {A C:Option Addr} {n c m k:Nat} {b y:List UInt8} {e0:Int} {w:World} (hw:Bn w g d s) (hs:s.b.length≤140737488351232) [hr:HR w A (bs b)] [hy:HR w C (bs y)] (hl:b.length=n) (hm:y.length=m):
    Calls Tryz.prog 142 #[.pointer (some ⟨g,0,none⟩), .slice A n c, .slice C m k, .int .i64 e0] w fun e w'=>e= .returned (.bool (Cv s&&decide (e0=0)&&decide (b=y)))∧w'=w:=by
 have HW:=Lib.hid hw;have hwl:Cv s=(!s.e&&decide (s.b=[])):=rfl;have HWL:=Lib.hid hwl;clear hw hwl;obtain⟨W,hW⟩: ∃W,W=Cv s:=⟨_,rfl⟩;rw[←hW] at HWL⊢;clear hW;rcases W with _|_
 ·rw[Bool.false_and,Bool.false_and];go_enter Tryz.func142,Tryz.ntmps142;go_wp2_with fail;refine(Hu g d s w HW.out (by omega)).mono ?_;rw[←HWL.out];rintro e w5 ⟨rfl,rfl⟩;go_wp2_with fail;go_ret;exact⟨rfl,rfl⟩
 by_cases he:e0=0
 ·subst he;obtain⟨R,hR⟩: ∃R,R=decide (b=y):=⟨_,rfl⟩;have HR1:=Lib.hid hR;rw[←hR];clear hR;rw[show(true&&decide ((0:Int)=0)&&R)=R by simp];go_enter Tryz.func142,Tryz.ntmps142;go_wp2_with fail;refine(Hu g d s w HW.out (by omega)).mono ?_;rw[←HWL.out];rintro e w5 ⟨rfl,rfl⟩;go_wp2_with (first|((with_reducible apply(Ef (op:= .convert _ _ _)));exact rfl)|((with_reducible apply Tj);exact rfl;infer_instance;(first|(exact hl)|exact hm);exact Tryz.underlying55;exact Tryz.underlying5;exact Tryz.underlying9));go_ret;rw[HR1.out,←Add];exact⟨rfl,rfl⟩
 have e1:(e0==0)=false:=by simp[he]
 rw[show(true&&decide (e0=0)&&decide (b=y))=false by simp[he]];go_enter Tryz.func142,Tryz.ntmps142;go_wp2_with fail;refine(Hu g d s w HW.out (by omega)).mono ?_;rw[←HWL.out];rintro e w5 ⟨rfl,rfl⟩;go_wp2_with fail;go_ret;exact⟨rfl,rfl⟩
end Go.Proofs.YtjjhceeookpieaaGreat
