/- UhFwF, UhFwK -/
import Derived.Test.YtjjhceeookpieaaGreatUhZ
import Derived.Test.YtjjhceeookpieaaGreatUhTgK
import Derived.BigGuard
import Derived.Test.YtjjhceeookpieaaGreatUhTgL
section
set_option maxRecDepth 100000
set_option maxHeartbeats 12800000
open Go Go.RowKit
namespace Go.Proofs.YtjjhceeookpieaaGreat
def tsV (nm:List UInt8) (v e0:Int) (A:Option Addr) (n c:Nat) (C:Option Addr) (m d:Nat):Array Value:=#[.string (Al nm), .int .i64 v, .int .i64 e0, .slice A n c, .slice C m d]
theorem Ie (nm:List UInt8) (v e0:Int) {A C:Option Addr} {n c m d:Nat} {P:List Ad} {D:List Ax} {w:World} [hr:HR w A (cellsOf P)] [hq:HR w C (cellsOf D)] (hl:P.length=n) (hm:D.length=m) (hmax:n≤1466015503700) (hmaxm:m≤1954687338769) (hnm:nm.length≤9223372036854775807) (hP: ∀t∈P,t.l.length≤9223372036854775807∧t.hw.length≤9223372036854775807∧t.ecu.length≤9223372036854775807) (hD: ∀k∈D,FG w k∧k.l.length≤9223372036854775807∧k.pre.length≤9223372036854775807):
    Calls Tryz.prog 208 #[.agg #[.string (Al nm), .int .i64 v, .int .i64 e0, .slice A n c, .slice C m d]] w fun e w'=>e= .returned (.bool (DO nm v e0 P D))∧Ag Ab w w':=by
 have HRR:=Lib.hid hr.out;have HQQ:=Lib.hid hq.out;have HL:=Lib.hid hl;have HM:=Lib.hid hm;have HPL:=Lib.hid hP;have HDL:=Lib.hid hD;have HNM:=Lib.hid hnm;have kb1:=AM e0;obtain⟨R,hR⟩: ∃R,R=DO nm v e0 P D:=⟨_,rfl⟩;have hR2:=hR;rw[Yb,hl,hm] at hR2;have HR0:=Lib.hid hR2;rw[←hR];clear hR hR2 hnm hP hD hl hm;go_enter Tryz.func208,Tryz.ntmps208;go_wp2_with (first|(refine Bv 1 ?_;intro zt wzt _ _ _));have hzt:w.heap.size≤zt:=Nat.le_of_eq (inferInstance:AW w zt).eq.symm;go_loopw [3] (fun iv wr=>∃k:Nat,k≤n∧(16<n→k=0)∧iv= .int .i64 (k:Int)∧Hid (Gj P k=true)∧Ag Ab w wr∧HB wr zt 66 #[.string (Al nm), .int .i64 v, .int .i64 e0, .slice A n c, .slice C m d]) (fun iv _=>n -(intOf iv).toNat)
 case atStart=>exact⟨0,Nat.zero_le _,fun _=>rfl,rfl,Lib.hid rfl,Aa,inferInstance⟩
 case round=>
  obtain⟨k,hk,hk0,rfl,HJ,st,ht⟩:=hrel;have nr:Nw w wr:=⟨st.chg⟩;have hrw:HR wr A (cellsOf P):=⟨HRR.out.later st.chg⟩;have hl:P.length=n:=HL.out;by_cases hlt:k<n∧n≤16
  focus
   obtain⟨hlt,h16⟩:=hlt;have hltI:(k:Int)<n:=by omega
   have h16I:(n:Int)≤16:=by omega
   have hkl:k<P.length:=by omega
   have hs3:(Al (gt P k).l).size ≤9223372036854775807∧(Al (gt P k).hw).size ≤9223372036854775807∧(Al (gt P k).ecu).size ≤9223372036854775807:=by
    rw[FE,FE,FE];exact HPL.out _ (BD P k hkl)
   have HS3:=Lib.hid hs3;obtain⟨V,hV⟩: ∃V,V=DX (gt P k):=⟨_,rfl⟩;have HV:=Lib.hid hV;have hpb:Gj P (k+1)=(V&&(decide (k=0)||DK (gt P (k -1)) (gt P k))):=by rw[Gj,HJ.out,Bool.true_and,←hV]
   have HPB:=Lib.hid hpb;have HNO:Hid (Gj P (k+1)=false→R=false):=Lib.hid (fun h=>by rw[HR0.out,Tw P (k+1) h n (by omega)];simp);clear hV hpb hs3 hk0;have hkp:k -1<P.length:=by omega
   cases V
   case false=>
    have HF:Hid (R=false):=Lib.hid (HNO.out (by rw[HPB.out];simp));go_wp2_with (first|(refine Ct ?_)|(refine CG ?_)|((with_reducible apply Ac);exact rfl;infer_instance;(first|(exact rfl)|(exact tg_hw _)|(exact tg_ctr _)|(exact tg_ecu _)|(exact srch_who)|exact srch_fd)));refine Ah (Ab) (by kernel_rfl) (fun wd _ _=> ?_);refine YS 0 ?_;refine' tk 1 _ rfl (by kernel_rfl) (by kernel_rfl) (by kernel_rfl) (fun _ _ _ h=>h) (yo (by rfl) fun w' _=> ?_) inferInstance ?_;rotate_left
    ·((apply Ai);exact rfl;infer_instance;infer_instance;(first|(exact rfl)|(exact tg_hw _)|(exact tg_ctr _)|(exact tg_ecu _)|(exact srch_who)|exact srch_fd))
    try simp only[Act.put,sA,sB,sC]
    refine YS 2 ?_;refine Gx 3 Ad 63 ?_;refine Vc 4 Ad 44 ?_;refine Yg 5 fun K_ hK_=> ?_
    go_simp;refine(ES (gt P k) _ HS3.out).mono ?_;rw[←HV.out];rintro e w5 ⟨rfl,_⟩;refine Yz hK_ ?_;clear hK_ K_;refine YS 6 ?_;refine YS 7 ?_;refine YU 8 ?_;refine YU 9 ?_
    try simp only[FS1.out]
    refine YU 10 ?_;refine YU 11 ?_;refine YU 12 ?_;refine YU 13 ?_;refine YU 14 ?_
    try simp only[FS1.out]
    refine YU 15 ?_;refine YU 16 ?_;refine YU 17 ?_;refine YU 18 ?_;refine YU 19 ?_;refine YU 20 ?_;refine YU 21 ?_;refine YU 22 ?_;refine YU 23 ?_;refine YU 24 ?_;refine YS 25 ?_;refine Yd ?_;go_wp2_with fail;go_ret;rw[HF.out];exact⟨rfl,Aa⟩
   by_cases h0:k=0
   ·have hkI: ¬0<(k:Int):=by omega
    have hkN: ¬0<k:=by omega
    have HT:Hid (Gj P (k+1)=true):=Lib.hid (by rw[HPB.out,decide_eq_true h0];simp);clear h0;go_wp2_with (first|(refine Ct ?_)|(refine CG ?_)|((with_reducible apply Ac);exact rfl;infer_instance;(first|(exact rfl)|(exact tg_hw _)|(exact tg_ctr _)|(exact tg_ecu _)|(exact srch_who)|exact srch_fd)));refine Ah (Ab) (by kernel_rfl) (fun wd _ _=> ?_);refine YS 0 ?_;refine' tk 1 _ rfl (by kernel_rfl) (by kernel_rfl) (by kernel_rfl) (fun _ _ _ h=>h) (yo (by rfl) fun w' _=> ?_) inferInstance ?_;rotate_left
    ·((apply Ai);exact rfl;infer_instance;infer_instance;(first|(exact rfl)|(exact tg_hw _)|(exact tg_ctr _)|(exact tg_ecu _)|(exact srch_who)|exact srch_fd))
    try simp only[Act.put,sA,sB,sC]
    refine YS 2 ?_;refine Gx 3 Ad 63 ?_;refine Vc 4 Ad 44 ?_;refine Yg 5 fun K_ hK_=> ?_
    go_simp;refine(ES (gt P k) _ HS3.out).mono ?_;rw[←HV.out];rintro e w5 ⟨rfl,_⟩;refine Yz hK_ ?_;clear hK_ K_;refine YS 6 ?_;refine YS 7 ?_;refine YS 8 ?_;refine YS 9 ?_
    try simp only[FS1.out]
    refine YS 10 ?_;refine YU 11 ?_;refine YU 12 ?_;refine YU 13 ?_;refine YU 14 ?_
    try simp only[FS1.out]
    refine YU 15 ?_;refine YU 16 ?_;refine YU 17 ?_;refine YU 18 ?_;refine YU 19 ?_;refine YU 20 ?_;refine YU 21 ?_;refine YU 22 ?_;refine YU 23 ?_;refine YS 24 ?_;refine YS 25 ?_;refine Yd ?_;go_wp2_with fail;exact⟨⟨k+1,by omega,fun _=>by omega,by go_num,HT,Aa,inferInstance⟩,by simp[intOf];omega⟩
   have hkI:0<(k:Int):=by omega
   have hkN:0<k:=by omega
   have FS1:=Lib.hid (show IntKind.i64.wrap ((k:Int) -1)=((k -1:Nat):Int) by rw[IntKind.wrap_i64];omega);obtain⟨Z,hZ⟩: ∃Z,Z=DK (gt P (k -1)) (gt P k):=⟨_,rfl⟩;have HZ:Hid (Gj P (k+1)=Z):=Lib.hid (by rw[HPB.out,decide_eq_false h0,hZ];simp);have HZ0:=Lib.hid hZ;clear hZ h0;cases Z
   case false=>
    have HF:Hid (R=false):=Lib.hid (HNO.out HZ.out);go_wp2_with (first|(refine Ct ?_)|(refine CG ?_)|((with_reducible apply Ac);exact rfl;infer_instance;(first|(exact rfl)|(exact tg_hw _)|(exact tg_ctr _)|(exact tg_ecu _)|(exact srch_who)|exact srch_fd)));refine Ah (Ab) (by kernel_rfl) (fun wd _ _=> ?_);refine YS 0 ?_;refine' tk 1 _ rfl (by kernel_rfl) (by kernel_rfl) (by kernel_rfl) (fun _ _ _ h=>h) (yo (by rfl) fun w' _=> ?_) inferInstance ?_;rotate_left
    ·((apply Ai);exact rfl;infer_instance;infer_instance;(first|(exact rfl)|(exact tg_hw _)|(exact tg_ctr _)|(exact tg_ecu _)|(exact srch_who)|exact srch_fd))
    try simp only[Act.put,sA,sB,sC]
    refine YS 2 ?_;refine Gx 3 Ad 63 ?_;refine Vc 4 Ad 44 ?_;refine Yg 5 fun K_ hK_=> ?_
    go_simp;refine(ES (gt P k) _ HS3.out).mono ?_;rw[←HV.out];rintro e w5 ⟨rfl,_⟩;refine Yz hK_ ?_;clear hK_ K_;refine YS 6 ?_;refine YS 7 ?_;refine YS 8 ?_;refine YS 9 ?_
    try simp only[FS1.out]
    refine YS 10 ?_;refine YS 11 ?_;refine' tk 12 _ rfl (by kernel_rfl) (by kernel_rfl) (by kernel_rfl) (fun _ _ _ h=>h) (yo (by rfl) fun w' _=> ?_) inferInstance ?_;rotate_left
    ·((apply Ai);exact rfl;infer_instance;infer_instance;(first|(exact rfl)|(exact tg_hw _)|(exact tg_ctr _)|(exact tg_ecu _)|(exact srch_who)|exact srch_fd))
    try simp only[Act.put,sA,sB,sC]
    refine YS 13 ?_;refine YS 14 ?_
    try simp only[FS1.out]
    refine Gx 15 Ad 63 ?_;refine Vc 16 Ad 44 ?_;refine YS 17 ?_;refine' tk 18 _ rfl (by kernel_rfl) (by kernel_rfl) (by kernel_rfl) (fun _ _ _ h=>h) (yo (by rfl) fun w' _=> ?_) inferInstance ?_;rotate_left
    ·((apply Ai);exact rfl;infer_instance;infer_instance;(first|(exact rfl)|(exact tg_hw _)|(exact tg_ctr _)|(exact tg_ecu _)|(exact srch_who)|exact srch_fd))
    try simp only[Act.put,sA,sB,sC]
    refine YS 19 ?_;refine Gx 20 Ad 63 ?_;refine Vc 21 Ad 44 ?_;refine Yg 22 fun K_ hK_=> ?_
    go_simp;refine(Kn (gt P (k -1)) (gt P k) _).mono ?_;rw[←HZ0.out];rintro e w6 ⟨rfl,_⟩;refine Yz hK_ ?_;clear hK_ K_;refine YS 23 ?_;refine YS 24 ?_;refine YS 25 ?_;refine Yd ?_;go_wp2_with fail;go_ret;rw[HF.out];exact⟨rfl,Aa⟩
   case true=>
    have HT:Hid (Gj P (k+1)=true):=Lib.hid HZ.out;go_wp2_with (first|(refine Ct ?_)|(refine CG ?_)|((with_reducible apply Ac);exact rfl;infer_instance;(first|(exact rfl)|(exact tg_hw _)|(exact tg_ctr _)|(exact tg_ecu _)|(exact srch_who)|exact srch_fd)));refine Ah (Ab) (by kernel_rfl) (fun wd _ _=> ?_);refine YS 0 ?_;refine' tk 1 _ rfl (by kernel_rfl) (by kernel_rfl) (by kernel_rfl) (fun _ _ _ h=>h) (yo (by rfl) fun w' _=> ?_) inferInstance ?_;rotate_left
    ·((apply Ai);exact rfl;infer_instance;infer_instance;(first|(exact rfl)|(exact tg_hw _)|(exact tg_ctr _)|(exact tg_ecu _)|(exact srch_who)|exact srch_fd))
    try simp only[Act.put,sA,sB,sC]
    refine YS 2 ?_;refine Gx 3 Ad 63 ?_;refine Vc 4 Ad 44 ?_;refine Yg 5 fun K_ hK_=> ?_
    go_simp;refine(ES (gt P k) _ HS3.out).mono ?_;rw[←HV.out];rintro e w5 ⟨rfl,_⟩;refine Yz hK_ ?_;clear hK_ K_;refine YS 6 ?_;refine YS 7 ?_;refine YS 8 ?_;refine YS 9 ?_
    try simp only[FS1.out]
    refine YS 10 ?_;refine YS 11 ?_;refine' tk 12 _ rfl (by kernel_rfl) (by kernel_rfl) (by kernel_rfl) (fun _ _ _ h=>h) (yo (by rfl) fun w' _=> ?_) inferInstance ?_;rotate_left
    ·((apply Ai);exact rfl;infer_instance;infer_instance;(first|(exact rfl)|(exact tg_hw _)|(exact tg_ctr _)|(exact tg_ecu _)|(exact srch_who)|exact srch_fd))
    try simp only[Act.put,sA,sB,sC]
    refine YS 13 ?_;refine YS 14 ?_
    try simp only[FS1.out]
    refine Gx 15 Ad 63 ?_;refine Vc 16 Ad 44 ?_;refine YS 17 ?_;refine' tk 18 _ rfl (by kernel_rfl) (by kernel_rfl) (by kernel_rfl) (fun _ _ _ h=>h) (yo (by rfl) fun w' _=> ?_) inferInstance ?_;rotate_left
    ·((apply Ai);exact rfl;infer_instance;infer_instance;(first|(exact rfl)|(exact tg_hw _)|(exact tg_ctr _)|(exact tg_ecu _)|(exact srch_who)|exact srch_fd))
    try simp only[Act.put,sA,sB,sC]
    refine YS 19 ?_;refine Gx 20 Ad 63 ?_;refine Vc 21 Ad 44 ?_;refine Yg 22 fun K_ hK_=> ?_
    go_simp;refine(Kn (gt P (k -1)) (gt P k) _).mono ?_;rw[←HZ0.out];rintro e w6 ⟨rfl,_⟩;refine Yz hK_ ?_;clear hK_ K_;refine YS 23 ?_;refine YS 24 ?_;refine YS 25 ?_;refine Yd ?_;go_wp2_with fail;exact⟨⟨k+1,by omega,fun _=>by omega,by go_num,HT,Aa,inferInstance⟩,by simp[intOf];omega⟩
  have HPN:Hid (n≤16→Gj P n=true):=Lib.hid (fun h=>by
   have hkn:k=n:=by omega
   rw[←hkn];exact HJ.out)
  have hcase:(¬k<n)∨(k<n∧¬n≤16):=by omega
  have HR1:Hid (R=(Bl nm&&BE v&&Ca e0&&decide (n≤16)&&decide (m≤16)&&FP D m)):=Lib.hid (by
   rw[HR0.out];by_cases h:n≤16
   ·rw[HPN.out h,decide_eq_true h,Bool.and_true]
   rw[decide_eq_false h];simp)
  clear hlt hk0 HPN HJ;rcases hcase with hlt|⟨hlt,h16⟩
  focus
   have hltI: ¬(k:Int)<n:=by omega
   go_wp2_with (first|go_big_skip|((with_reducible apply Ac);exact rfl;infer_instance;(first|(exact rfl)|(exact tg_hw _)|(exact tg_ctr _)|(exact tg_ecu _)|(exact srch_who)|exact srch_fd)))
  rotate_left
  focus
   have hltI:(k:Int)<n:=by omega
   have h16I: ¬(n:Int)≤16:=by omega
   clear h16;go_wp2_with (first|(refine Ct ?_)|(refine CG ?_)|((with_reducible apply Ac);exact rfl;infer_instance;(first|(exact rfl)|(exact tg_hw _)|(exact tg_ctr _)|(exact tg_ecu _)|(exact srch_who)|exact srch_fd)))
  rotate_left
  all_goals
   clear hltI hlt
   try clear h16I
   generalize wr=w1 at*;go_loopw [4] (fun iv wr=>∃i:Nat,i≤m∧(16<m→i=0)∧iv= .int .i64 (i:Int)∧Hid (FP D i=true)∧Ag Ab w wr∧HB wr zt 66 #[.string (Al nm), .int .i64 v, .int .i64 e0, .slice A n c, .slice C m d]) (fun iv _=>m -(intOf iv).toNat)
   case atStart=>exact⟨0,Nat.zero_le _,fun _=>rfl,rfl,Lib.hid rfl,st,ht⟩
   case round=>
    clear st ht nr hrw;obtain⟨i,hi,hi0,rfl,HJ,st,ht⟩:=hrel;have nr:Nw w wr:=⟨st.chg⟩;have hqw:HR wr C (cellsOf D):=⟨HQQ.out.later st.chg⟩;have hm:D.length=m:=HM.out;by_cases hlt:i<m∧m≤16
    focus
     obtain⟨hlt,h16⟩:=hlt;have hltI:(i:Int)<m:=by omega
     have h16I:(m:Int)≤16:=by omega
     have hil:i<D.length:=by omega
     have HDi:=Lib.hid (HDL.out _ (BD D i hil));have hszl:(Al (gt D i).l).size ≤9223372036854775807:=by rw[FE];exact HDi.out.2.1
     have hszp:(Al (gt D i).pre).size ≤9223372036854775807:=by rw[FE];exact HDi.out.2.2
     have HSL:=Lib.hid hszl;have HSP:=Lib.hid hszp;have hsz5:(Af.enc (gt D i)).toArray.size =5:=rfl;have hone5:=AY (gt D i);obtain⟨V1,hV1⟩: ∃V,V=Bl (gt D i).l :=⟨_,rfl⟩;obtain⟨V2,hV2⟩: ∃V,V=Nf (gt D i).k.l (gt D i).k.need :=⟨_,rfl⟩;obtain⟨V3,hV3⟩: ∃V,V=Bl (gt D i).pre :=⟨_,rfl⟩;have HV1:=Lib.hid hV1;have HV2:=Lib.hid hV2;have HV3:=Lib.hid hV3;have hpb:FP D (i+1)=(V1&&V2&&((gt D i).pre.isEmpty ||V3)&&Fi D i i):=by rw[FP,HJ.out,Bool.true_and,Fd,Fw,←hV1,←hV2,←hV3]
     have HPB:=Lib.hid hpb;have HNO:Hid (FP D (i+1)=false→R=false):=Lib.hid (fun h=>by rw[HR1.out,Tx D (i+1) h m (by omega)];simp);have hpre:(Al (gt D i).pre).toList.isEmpty =(gt D i).pre.isEmpty :=by rw[AI]
     clear hV1 hV2 hV3 hpb hi0 hszl hszp h16 HJ;cases V1
     case false=>
      have HF:Hid (R=false):=Lib.hid (HNO.out (by rw[HPB.out];simp));go_wp2_with (first|(refine Ja Ax 64 ?_)|(refine Rk Ax 213 ?_)|(refine BB 5 ?_;intro z5 wz5 _ _ _)|(refine Ct ?_)|(refine CG ?_)|((with_reducible apply Ac);exact rfl;infer_instance;(first|(exact rfl)|(exact tg_hw _)|(exact tg_ctr _)|(exact tg_ecu _)|(exact srch_who)|exact srch_fd))|(refine Bt ?_;intro ws _ _));refine(AJ (Al (gt D i).l) (gt D i).l rfl HSL.out _).mono ?_;rw[←HV1.out];rintro e w6 ⟨rfl,_⟩;go_wp2_with (first|go_big_skip);go_ret;rw[HF.out];exact⟨rfl,Aa⟩
     cases V2
     case false=>
      have HF:Hid (R=false):=Lib.hid (HNO.out (by rw[HPB.out];simp));go_wp2_with (first|(refine Ja Ax 64 ?_)|(refine Rk Ax 213 ?_)|(refine BB 5 ?_;intro z5 wz5 _ _ _)|(refine Ct ?_)|(refine CG ?_)|((with_reducible apply Ac);exact rfl;infer_instance;(first|(exact rfl)|(exact tg_hw _)|(exact tg_ctr _)|(exact tg_ecu _)|(exact srch_who)|exact srch_fd))|(refine Bt ?_;intro ws _ _));refine(AJ (Al (gt D i).l) (gt D i).l rfl HSL.out _).mono ?_;rw[←HV1.out];rintro e w6 ⟨rfl,_⟩;go_wp2_with (first|((with_reducible apply(CA (g:=z5) (k:=1) (n:=2) (tb:=213) (cs:=(Af.enc (gt D i)).toArray) (vs:=[.slice (gt D i).k.A (gt D i).k.n (gt D i).k.c, .int .i64 (gt D i).k.need])));exact rfl;infer_instance;infer_instance;exact(by decide);exact rfl;exact rfl)|(refine Ct ?_)|(refine CG ?_));have hr6:HR w6 (gt D i).k.A (cellsOf (gt D i).k.l):=⟨HDi.out.1.rd.later (Aa (w0:=w)).chg⟩;refine(DU (l:=(gt D i).k.l) (gt D i).k.need HDi.out.1.len HDi.out.1.le).mono ?_;rw[←HV2.out];rintro e w7 ⟨rfl,_⟩;go_wp2_with (first|go_big_skip);go_ret;rw[HF.out];exact⟨rfl,Aa⟩
     cases hpe:(gt D i).pre.isEmpty
     focus
      rw[hpe] at hpre;cases V3
      case false=>
       have HF:Hid (R=false):=Lib.hid (HNO.out (by rw[HPB.out,hpe];simp));clear hpe;go_wp2_with (first|(refine Ja Ax 64 ?_)|(refine Rk Ax 213 ?_)|(refine BB 5 ?_;intro z5 wz5 _ _ _)|(refine Ct ?_)|(refine CG ?_)|((with_reducible apply Ac);exact rfl;infer_instance;(first|(exact rfl)|(exact tg_hw _)|(exact tg_ctr _)|(exact tg_ecu _)|(exact srch_who)|exact srch_fd))|(refine Bt ?_;intro ws _ _));refine(AJ (Al (gt D i).l) (gt D i).l rfl HSL.out _).mono ?_;rw[←HV1.out];rintro e w6 ⟨rfl,_⟩;go_wp2_with (first|((with_reducible apply(CA (g:=z5) (k:=1) (n:=2) (tb:=213) (cs:=(Af.enc (gt D i)).toArray) (vs:=[.slice (gt D i).k.A (gt D i).k.n (gt D i).k.c, .int .i64 (gt D i).k.need])));exact rfl;infer_instance;infer_instance;exact(by decide);exact rfl;exact rfl)|(refine Ct ?_)|(refine CG ?_));have hr6:HR w6 (gt D i).k.A (cellsOf (gt D i).k.l):=⟨HDi.out.1.rd.later (Aa (w0:=w)).chg⟩;refine(DU (l:=(gt D i).k.l) (gt D i).k.need HDi.out.1.len HDi.out.1.le).mono ?_;rw[←HV2.out];rintro e w7 ⟨rfl,_⟩;go_wp2_with (first|(refine Ct ?_)|(refine WGC ?_)|(refine CG ?_)|((with_reducible apply Ac);exact rfl;infer_instance;(first|(exact rfl)|(exact tg_hw _)|(exact tg_ctr _)|(exact tg_ecu _)|(exact srch_who)|exact srch_fd)));refine(AJ (Al (gt D i).pre) (gt D i).pre rfl HSP.out _).mono ?_;rw[←HV3.out];rintro e w8 ⟨rfl,_⟩;go_wp2_with fail;go_ret;rw[HF.out];exact⟨rfl,Aa⟩
      have HPC:Hid (FP D (i+1)=Fi D i i):=Lib.hid (by rw[HPB.out,hpe];simp);clear hpe HPB;go_wp2_with (first|(refine Ja Ax 64 ?_)|(refine Rk Ax 213 ?_)|(refine BB 5 ?_;intro z5 wz5 _ _ _)|(refine Ct ?_)|(refine CG ?_)|((with_reducible apply Ac);exact rfl;infer_instance;(first|(exact rfl)|(exact tg_hw _)|(exact tg_ctr _)|(exact tg_ecu _)|(exact srch_who)|exact srch_fd))|(refine Bt ?_;intro ws _ _));refine(AJ (Al (gt D i).l) (gt D i).l rfl HSL.out _).mono ?_;rw[←HV1.out];rintro e w6 ⟨rfl,_⟩;go_wp2_with (first|((with_reducible apply(CA (g:=z5) (k:=1) (n:=2) (tb:=213) (cs:=(Af.enc (gt D i)).toArray) (vs:=[.slice (gt D i).k.A (gt D i).k.n (gt D i).k.c, .int .i64 (gt D i).k.need])));exact rfl;infer_instance;infer_instance;exact(by decide);exact rfl;exact rfl)|(refine Ct ?_)|(refine CG ?_));have hr6:HR w6 (gt D i).k.A (cellsOf (gt D i).k.l):=⟨HDi.out.1.rd.later (Aa (w0:=w)).chg⟩;refine(DU (l:=(gt D i).k.l) (gt D i).k.need HDi.out.1.len HDi.out.1.le).mono ?_;rw[←HV2.out];rintro e w7 ⟨rfl,_⟩;go_wp2_with (first|(refine Ct ?_)|(refine WGC ?_)|(refine CG ?_)|((with_reducible apply Ac);exact rfl;infer_instance;(first|(exact rfl)|(exact tg_hw _)|(exact tg_ctr _)|(exact tg_ecu _)|(exact srch_who)|exact srch_fd)));refine(AJ (Al (gt D i).pre) (gt D i).pre rfl HSP.out _).mono ?_;rw[←HV3.out];rintro e w8 ⟨rfl,_⟩;have ht9:HB w8 zt 66 #[.string (Al nm), .int .i64 v, .int .i64 e0, .slice A n c, .slice C m d]:=inferInstance;have h59:HB w8 z5 213 (Af.enc (gt D i)).toArray :=inferInstance;have st9:Ag Ab w w8:=Aa;go_wp2_with fail;generalize w8=w9 at*
     rotate_left
     focus
      rw[hpe] at hpre;have HPC:Hid (FP D (i+1)=Fi D i i):=Lib.hid (by rw[HPB.out,hpe];simp);clear hpe HPB;go_wp2_with (first|(refine Ja Ax 64 ?_)|(refine Rk Ax 213 ?_)|(refine BB 5 ?_;intro z5 wz5 _ _ _)|(refine Ct ?_)|(refine CG ?_)|((with_reducible apply Ac);exact rfl;infer_instance;(first|(exact rfl)|(exact tg_hw _)|(exact tg_ctr _)|(exact tg_ecu _)|(exact srch_who)|exact srch_fd))|(refine Bt ?_;intro ws _ _));refine(AJ (Al (gt D i).l) (gt D i).l rfl HSL.out _).mono ?_;rw[←HV1.out];rintro e w6 ⟨rfl,_⟩;go_wp2_with (first|((with_reducible apply(CA (g:=z5) (k:=1) (n:=2) (tb:=213) (cs:=(Af.enc (gt D i)).toArray) (vs:=[.slice (gt D i).k.A (gt D i).k.n (gt D i).k.c, .int .i64 (gt D i).k.need])));exact rfl;infer_instance;infer_instance;exact(by decide);exact rfl;exact rfl)|(refine Ct ?_)|(refine CG ?_));have hr6:HR w6 (gt D i).k.A (cellsOf (gt D i).k.l):=⟨HDi.out.1.rd.later (Aa (w0:=w)).chg⟩;refine(DU (l:=(gt D i).k.l) (gt D i).k.need HDi.out.1.len HDi.out.1.le).mono ?_;rw[←HV2.out];rintro e w7 ⟨rfl,_⟩;have ht9:HB w7 zt 66 #[.string (Al nm), .int .i64 v, .int .i64 e0, .slice A n c, .slice C m d]:=inferInstance;have h59:HB w7 z5 213 (Af.enc (gt D i)).toArray :=inferInstance;have st9:Ag Ab w w7:=Aa;go_wp2_with (first|go_big_skip|(refine Ct ?_)|(refine CG ?_)|((with_reducible apply Ac);exact rfl;infer_instance;(first|(exact rfl)|(exact tg_hw _)|(exact tg_ctr _)|(exact tg_ecu _)|(exact srch_who)|exact srch_fd)));generalize w7=w9 at*
     rotate_left
     all_goals
      go_loopw [6] (fun kv wr=>∃k:Nat,k≤i∧kv= .int .i64 (k:Int)∧Hid (Fi D i k=true)∧Ag Ab w wr∧HB wr zt 66 #[.string (Al nm), .int .i64 v, .int .i64 e0, .slice A n c, .slice C m d]∧HB wr z5 213 (Af.enc (gt D i)).toArray) (fun kv _=>i -(intOf kv).toNat)
      case atStart=>exact⟨0,Nat.zero_le _,rfl,Lib.hid rfl,st9,ht9,h59⟩
      case round=>
       clear st9 ht9 h59;obtain⟨k,hk,rfl,HK,stk,htk,h5k⟩:=hrel;have nrk:Nw w wr:=⟨stk.chg⟩;have hqk:HR wr C (cellsOf D):=⟨HQQ.out.later stk.chg⟩;by_cases hki:k<i
       ·have hkI:(k:Int)<i:=by omega
        have hkD:k<D.length:=by omega
        obtain⟨Y,hY⟩: ∃Y,Y=decide ((gt D k).l =(gt D i).l):=⟨_,rfl⟩;have hq:((Al (gt D k).l).toList ==(Al (gt D i).l).toList)=Y:=by
         rw[AI,AI,hY,Bool.eq_iff_iff];simp
        have HY:=Lib.hid hY;have HKS:Hid (Fi D i (k+1)= !Y):=Lib.hid (by rw[Fi,HK.out,Bool.true_and,←hY]);clear hY;cases Y
        case true=>
         have HF:Hid (R=false):=Lib.hid (HNO.out (by rw[HPC.out];exact Qz D i (k+1) (by rw[HKS.out];rfl) i hki));go_wp2_with fail;refine Ah (Ab) (by kernel_rfl) (fun wd _ _=> ?_);refine YS 0 ?_;refine' tk 1 _ rfl (by kernel_rfl) (by kernel_rfl) (by kernel_rfl) (fun _ _ _ h=>h) (yo (by rfl) fun w' _=> ?_) inferInstance ?_;rotate_left
         ·((apply Ai);exact rfl;infer_instance;infer_instance;(first|(exact rfl)|(exact tg_hw _)|(exact tg_ctr _)|(exact tg_ecu _)|(exact srch_who)|exact srch_fd))
         try simp only[Act.put,sA,sB,sC]
         refine YS 2 ?_;refine Gx 3 Ax 64 ?_;refine Jh 4 213 Tryz.underlying213 ?_;refine' tk 5 _ rfl (by kernel_rfl) (by kernel_rfl) (by kernel_rfl) (fun _ _ _ h=>h) (yo (by rfl) fun w' _=> ?_) inferInstance ?_;rotate_left
         ·((apply(Cg (α:=Ax)));infer_instance;exact rfl;infer_instance;exact rfl;(first|(with_reducible assumption)|omega|(focus (simp;done))|(focus (simp;omega;done))|decide);(first|(exact rfl)|(exact tg_hw _)|(exact tg_ctr _)|(exact tg_ecu _)|(exact srch_who)|exact srch_fd))
         try simp only[Act.put,sA,sB,sC]
         refine YS 6 ?_;refine' tk 7 _ rfl (by kernel_rfl) (by kernel_rfl) (by kernel_rfl) (fun _ _ _ h=>h) (yo (by rfl) fun w' _=> ?_) inferInstance ?_;rotate_left
         ·((apply Ai);exact rfl;infer_instance;infer_instance;(first|(exact rfl)|(exact tg_hw _)|(exact tg_ctr _)|(exact tg_ecu _)|(exact srch_who)|exact srch_fd))
         try simp only[Act.put,sA,sB,sC]
         refine YS 8 ?_
         try simp only[FS1.out]
         refine Yd ?_;go_wp2_with fail;go_ret;rw[HF.out];exact⟨rfl,Aa⟩
        case false=>
         go_wp2_with fail;refine Ah (Ab) (by kernel_rfl) (fun wd _ _=> ?_);refine YS 0 ?_;refine' tk 1 _ rfl (by kernel_rfl) (by kernel_rfl) (by kernel_rfl) (fun _ _ _ h=>h) (yo (by rfl) fun w' _=> ?_) inferInstance ?_;rotate_left
         ·((apply Ai);exact rfl;infer_instance;infer_instance;(first|(exact rfl)|(exact tg_hw _)|(exact tg_ctr _)|(exact tg_ecu _)|(exact srch_who)|exact srch_fd))
         try simp only[Act.put,sA,sB,sC]
         refine YS 2 ?_;refine Gx 3 Ax 64 ?_;refine Jh 4 213 Tryz.underlying213 ?_;refine' tk 5 _ rfl (by kernel_rfl) (by kernel_rfl) (by kernel_rfl) (fun _ _ _ h=>h) (yo (by rfl) fun w' _=> ?_) inferInstance ?_;rotate_left
         ·((apply(Cg (α:=Ax)));infer_instance;exact rfl;infer_instance;exact rfl;(first|(with_reducible assumption)|omega|(focus (simp;done))|(focus (simp;omega;done))|decide);(first|(exact rfl)|(exact tg_hw _)|(exact tg_ctr _)|(exact tg_ecu _)|(exact srch_who)|exact srch_fd))
         try simp only[Act.put,sA,sB,sC]
         refine YS 6 ?_;refine' tk 7 _ rfl (by kernel_rfl) (by kernel_rfl) (by kernel_rfl) (fun _ _ _ h=>h) (yo (by rfl) fun w' _=> ?_) inferInstance ?_;rotate_left
         ·((apply Ai);exact rfl;infer_instance;infer_instance;(first|(exact rfl)|(exact tg_hw _)|(exact tg_ctr _)|(exact tg_ecu _)|(exact srch_who)|exact srch_fd))
         try simp only[Act.put,sA,sB,sC]
         refine YS 8 ?_
         try simp only[FS1.out]
         refine Yd ?_;go_wp2_with fail;exact⟨⟨k+1,by omega,by go_num,Lib.hid (by rw[HKS.out];rfl),Aa,inferInstance,inferInstance⟩,by simp[intOf];omega⟩
       have hkI: ¬(k:Int)<i:=by omega
       have hke:k=i:=by omega
       have HT:Hid (FP D (i+1)=true):=Lib.hid (by rw[HPC.out,←HK.out,hke]);clear hke hki;go_wp2_with fail;exact⟨⟨i+1,by omega,fun _=>by omega,by go_num,HT,Aa,inferInstance⟩,by simp[intOf];omega⟩
    have HDN:Hid (m≤16→FP D m=true):=Lib.hid (fun h=>by
     have hkn:i=m:=by omega
     rw[←hkn];exact HJ.out)
    have hcase:(¬i<m)∨(i<m∧¬m≤16):=by omega
    have HR2:Hid (R=(Bl nm&&BE v&&Ca e0&&decide (n≤16)&&decide (m≤16))):=Lib.hid (by
     rw[HR1.out];by_cases h:m≤16
     ·rw[HDN.out h,Bool.and_true]
     rw[decide_eq_false h];simp)
    have hszn:(Al nm).size ≤9223372036854775807:=by rw[FE];exact HNM.out
    have HSN:=Lib.hid hszn;clear hlt hi0 HDN HJ hszn;rcases hcase with hlt|⟨hlt,h16⟩
    focus
     have hltI: ¬(i:Int)<m:=by omega
     go_wp2_with (first|go_big_skip|((with_reducible apply Ac);exact rfl;infer_instance;(first|(exact rfl)|(exact tg_hw _)|(exact tg_ctr _)|(exact tg_ecu _)|(exact srch_who)|exact srch_fd)));refine(AJ (Al nm) nm rfl HSN.out _).mono ?_
    rotate_left
    focus
     have hltI:(i:Int)<m:=by omega
     have h16I: ¬(m:Int)≤16:=by omega
     clear h16;go_wp2_with (first|(refine Ct ?_)|(refine CG ?_)|((with_reducible apply Ac);exact rfl;infer_instance;(first|(exact rfl)|(exact tg_hw _)|(exact tg_ctr _)|(exact tg_ecu _)|(exact srch_who)|exact srch_fd)));refine(AJ (Al nm) nm rfl HSN.out _).mono ?_
    rotate_left
    all_goals
     clear hltI hlt
     try clear h16I
     cases h0:Bl nm
     case false=>
      have HF:Hid (R=false):=Lib.hid (by rw[HR2.out,h0];simp);rintro e w5 ⟨rfl,_⟩;go_wp2_with (first|go_big_skip);go_ret;rw[HF.out];exact⟨rfl,Aa⟩
     rintro e w5 ⟨rfl,_⟩;go_wp2_with (first|(refine Ct ?_)|(refine WGC ?_)|(refine CG ?_)|((with_reducible apply Ac);exact rfl;infer_instance;(first|(exact rfl)|(exact tg_hw _)|(exact tg_ctr _)|(exact tg_ecu _)|(exact srch_who)|exact srch_fd)));refine(AX v _).mono ?_;cases h1:BE v
     case false=>
      have HF:Hid (R=false):=Lib.hid (by rw[HR2.out,h1];simp);rintro e w6 ⟨rfl,_⟩;go_wp2_with (first|go_big_skip);go_ret;rw[HF.out];exact⟨rfl,Aa⟩
     rintro e w6 ⟨rfl,_⟩;go_wp2_with (first|(refine Ct ?_)|(refine WGC ?_)|(refine WGB ?_)|(refine BM 110 (kb1 _) ?_;intro zb wb _ _ _)|(refine CG ?_)|((with_reducible apply Ac);exact rfl;infer_instance;(first|(exact rfl)|(exact tg_hw _)|(exact tg_ctr _)|(exact tg_ecu _)|(exact srch_who)|exact srch_fd)));have hr2:HR wb (some ⟨zb,0,none⟩) (Ic [e0]):=HR.ints1 (inferInstance:HB wb zb 3 #[.int .i64 e0]);refine(Dv (l:=[e0]) (n:=1) (c:=1) rfl (by decide)).mono ?_;rw[FK];cases h2:Ca e0
     case false=>
      have HF:Hid (R=false):=Lib.hid (by rw[HR2.out,h2];simp);rintro e w7 ⟨rfl,_⟩;go_wp2_with (first|go_big_skip);go_ret;rw[HF.out];exact⟨rfl,Aa⟩
     rintro e w7 ⟨rfl,_⟩;have HR3:Hid (R=(decide (n≤16)&&decide (m≤16))):=Lib.hid (by rw[HR2.out,h0,h1,h2];simp);by_cases h3:n≤16
     ·have h3I:(n:Int)≤16:=by omega
      have HF:Hid (R=decide ((m:Int)≤16)):=Lib.hid (by
       rw[HR3.out,decide_eq_true h3,Bool.true_and,Bool.eq_iff_iff,decide_eq_true_eq,decide_eq_true_eq];omega)
      go_wp2_with (first|(refine Ct ?_)|(refine WGC ?_)|(refine CG ?_)|((with_reducible apply Ac);exact rfl;infer_instance;(first|(exact rfl)|(exact tg_hw _)|(exact tg_ctr _)|(exact tg_ecu _)|(exact srch_who)|exact srch_fd)));go_ret;rw[HF.out];exact⟨rfl,Aa⟩
     have h3I: ¬(n:Int)≤16:=by omega
     have HF:Hid (R=false):=Lib.hid (by rw[HR3.out,decide_eq_false h3];simp);go_wp2_with (first|go_big_skip|(refine Ct ?_)|(refine WGC ?_)|(refine CG ?_)|((with_reducible apply Ac);exact rfl;infer_instance;(first|(exact rfl)|(exact tg_hw _)|(exact tg_ctr _)|(exact tg_ecu _)|(exact srch_who)|exact srch_fd)));go_ret;rw[HF.out];exact⟨rfl,Aa⟩
end Go.Proofs.YtjjhceeookpieaaGreat
end
section
set_option maxRecDepth 100000
set_option maxHeartbeats 6400000
open Go Go.RowKit
namespace Go.Proofs.YtjjhceeookpieaaGreat
theorem Yc (P:List Ad) (k:Nat) (h:k<P.length):Im (P.take (k+1))=Im (P.take k)++NL (gt P k):=by
 rw[←List.take_append_getElem h,Im,List.flatMap_append];simp[gt,List.getD_eq_getElem?_getD,h,Im]
theorem Ye (D:List Ax) (k:Nat) (h:k<D.length):JH (D.take (k+1))=JH (D.take k)++Xr (gt D k):=by
 rw[←List.take_append_getElem h,JH,List.flatMap_append];simp[gt,List.getD_eq_getElem?_getD,h,JH]
theorem Yf (a b c:Int) (w:World):(Instr.buildSlice 253 3 #[(0, .int .i64 a),(1, .int .i64 b),(2, .int .i64 c)]).run Tryz.prog w= .ok (.slice (some ⟨w.heap.size,0,none⟩) 3 3) (w.alloc (.cells #[.int .i64 a, .int .i64 b, .int .i64 c] 3)):=by kernel_rfl
theorem Jp (nm:List UInt8) (v e0:Int) {A C:Option Addr} {n c m d:Nat} {P:List Ad} {D:List Ax} {w:World} [hr:HR w A (cellsOf P)] [hq:HR w C (cellsOf D)] (hl:P.length=n) (hm:D.length=m) (hmax:n≤1466015503700) (hmaxm:m≤1954687338769) (hnm:nm.length≤9223372036854775807) (hP: ∀t∈P,t.l.length≤9223372036854775807∧t.hw.length≤9223372036854775807∧t.ecu.length≤9223372036854775807) (hD: ∀k∈D,FG w k∧k.l.length≤9223372036854775807∧k.pre.length≤9223372036854775807):
    Calls Tryz.prog 153 #[.agg #[.string (Al nm), .int .i64 v, .int .i64 e0, .slice A n c, .slice C m d]] w (AR (DO nm v e0 P D) (Et nm v e0 P (D.map Ax.m)) w):=by
 have HRR:=Lib.hid hr.out;have HQQ:=Lib.hid hq.out;have HL:=Lib.hid hl;have HM:=Lib.hid hm;have HPL:=Lib.hid hP;have HDL:=Lib.hid hD;have HNM:=Lib.hid hnm;unfold AR;cases hb:DO nm v e0 P D
 case false=>
  clear hP hD hl hm;go_enter Tryz.func153,Tryz.ntmps153;go_wp2_with (first|(refine Bv 1 ?_;intro zt wzt _ _ _)|(refine Cp ?_));refine(Ie nm v e0 (P:=P) (D:=D) HL.out HM.out hmax hmaxm hnm HPL.out (fun k hk=>⟨FG.nw (w0:=w) (HDL.out k hk).1,(HDL.out k hk).2⟩)).mono ?_;rw[hb];rintro e w5 ⟨rfl,_⟩;go_wp2_with fail
  go_ret2
  exact⟨Aa,rfl⟩
 case true=>
  have hin:=Pe hb;have hn16:n≤16:=by have:=hin.2.1;omega
  have hm16:m≤16:=by have:=hin.2.2.2.1;omega
  have HPA:=Lib.hid (List.all_eq_true.1 hin.2.2.1);have HDA:=Lib.hid (List.all_eq_true.1 hin.2.2.2.2);have hnl:nm.length≤1000000000:=by have:=CE hin.1;omega
  have H1:Hid ((Ap nm).length ≤21):=Lib.hid (by have:=CE hin.1;have:=GG nm (by omega);omega);have H0:Hid ((Ae [4]).length ≤9):=Lib.hid (Az [4]);have H3:Hid ((Ae [v,e0,(n:Int)]).length ≤27):=Lib.hid (Az [v,e0,(n:Int)]);have H4:Hid ((Ae [(m:Int)]).length ≤9):=Lib.hid (Az [(m:Int)]);have HE:Hid (Et nm v e0 P (D.map Ax.m)=Ae [4]++Ap nm++Ae [v,e0,(n:Int)]++Im P++Ae [(m:Int)]++JH D):=Lib.hid (by
   rw[←Aa3 nm v e0 hl hm,Qf,show[v,e0,(n:Int)]=[v,e0]++[(n:Int)] from rfl,Cw];simp)
  have kb3:=Yf v e0 (n:Int);rw[HE.out];clear hin HE hP hD hl hm;go_enter Tryz.func153,Tryz.ntmps153;go_wp2_with (first|(refine Bv 1 ?_;intro zt wzt _ _ _)|(refine Cp ?_));refine(Ie nm v e0 (P:=P) (D:=D) HL.out HM.out hmax hmaxm hnm HPL.out (fun k hk=>⟨FG.nw (w0:=w) (HDL.out k hk).1,(HDL.out k hk).2⟩)).mono ?_;rw[hb];rintro e w5 ⟨rfl,_⟩;go_wp2_with fail;have n5:Nw w w5:=inferInstance;have ht5:HB w5 zt 66 #[.string (Al nm), .int .i64 v, .int .i64 e0, .slice A n c, .slice C m d]:=inferInstance;have hl5:=ht5.out.lt;refine Ah (Ab) (by kernel_rfl) (fun wd _ _=> ?_);refine YS 1 ?_;refine IS 2 0 rfl ?_;refine Yg 0 fun K_ hK_=> ?_
  go_simp;refine(CQ 4 _).mono ?_;rintro e w6 ⟨A6,n6,c6,rfl,hF⟩;have st6:Ag Ab _ w6:=⟨hF.out.chg⟩;have hA6:Aj w5 A6:=⟨fun ad e=>Nat.le_trans (Aa (w0:=w5)).chg.size (hF.out.new ad e)⟩;have hA6d:Aj wd A6:=⟨fun ad e=>Nat.le_trans (Aa (w0:=wd)).chg.size (hF.out.new ad e)⟩;have ho6:HO w6 5 1 A6 n6 c6 (bs (Ae [4])):=by
   rw[Bk];exact Mf hF.out
  have HN6:Hid (n6=(Ae [4]).length):=Lib.hid (by rw[Bk];exact hF.out.len);have hn6:n6≤9:=by
   have:=HN6.out;have:=H0.out;omega
  clear hF;refine Yz hK_ ?_;clear hK_ K_;refine Yg 3 fun K_ hK_=> ?_
  go_simp;refine(EC (Al nm) nm rfl hnl _).mono ?_;rintro e w7 ⟨A7,n7,c7,rfl,hF⟩;have st7:Ag Ab _ w7:=⟨hF.out.chg⟩;have hr7:HR w7 A7 (bs (Ap nm)):=⟨hF.out.own.rd⟩;have HN7:Hid (n7=(Ap nm).length):=Lib.hid hF.out.len;have hl7:(Ap nm).length =n7:=hF.out.len.symm;have hn7:n7≤21:=by
   have:=H1.out;omega
  clear hF;refine Yz hK_ ?_;clear hK_ K_;refine Yh 4 fun K_ hK_=> ?_
  (refine NO ?_;intro A' c' wa _ _ _ hcap)
  refine Yn hK_ ?_;clear hK_ K_;refine YS 5 ?_;refine Yd ?_;have hAa:Aj w5 A':=Aj.monoS (inferInstance:Aj wd A');have st3:Ag Ab w wa:=Aa;have hoa:HO wa 5 1 A' (n6+n7) c' (bs (Ae [4]++Ap nm)):=inferInstance;have hta:HB wa zt 66 #[.string (Al nm), .int .i64 v, .int .i64 e0, .slice A n c, .slice C m d]:=inferInstance;have HLN:Hid (n6+n7=(Ae [4]++Ap nm).length):=Lib.hid (by rw[List.length_append,←HN6.out,←HN7.out]);have hn:n6+n7≤30:=by omega
  clear hn6 hn7 hl7;generalize n6+n7=N0 at*;generalize wa=w1 at*;generalize A'=A0 at*;generalize c'=c0 at*;have os0:As (An A0) zt:=⟨fun⟨ad,e,hk⟩=>by
   have h1:=hAa.out ad e;omega⟩
  have hwA0:Aj w A0:=⟨fun ad e=>Nat.le_trans n5.out.size (hAa.out ad e)⟩;obtain⟨X0,hX0⟩: ∃X,X=Ae [4]++Ap nm:=⟨_,rfl⟩;rw[←hX0] at hoa HLN;have HX0:=Lib.hid hX0;clear hX0;go_wp2_with (first|(refine BM 23 (kb3 _) ?_;intro zi wb _ _ _)|((with_reducible apply Ac);exact rfl;infer_instance;(first|(exact rfl)|(exact tg_hw _)|(exact tg_ctr _)|(exact tg_ecu _)|(exact srch_who)|exact srch_fd)));refine(FJ (some ⟨zi,0,none⟩) 3 3 [v,e0,(n:Int)] _ (HB.rdL (z:=zi) (t:=3) (cs:=#[.int .i64 v, .int .i64 e0, .int .i64 (n:Int)]) inferInstance) rfl (show 3≤1000000000 by decide)).mono ?_;rintro e w9 ⟨A9,n9,c9,rfl,hF⟩;have st9:Ag Ab _ w9:=⟨hF.out.chg⟩;have hr9:HR w9 A9 (bs (Ae [v,e0,(n:Int)])):=⟨hF.out.own.rd⟩;have HN9:Hid (n9=(Ae [v,e0,(n:Int)]).length):=Lib.hid hF.out.len;have hl9:(Ae [v,e0,(n:Int)]).length =n9:=hF.out.len.symm;have hn9:n9≤27:=by
   have:=H3.out;omega
  clear hF;go_wp2_with (first|(refine NO ?_;intro A' c' wa _ _ _ hcap));have hob:HO wa 5 1 A' (N0+n9) c' (bs (X0++Ae [v,e0,(n:Int)])):=inferInstance;have htb:HB wa zt 66 #[.string (Al nm), .int .i64 v, .int .i64 e0, .slice A n c, .slice C m d]:=inferInstance;have hAb:Aj w A':=inferInstance;have osb:As (An A') zt:=inferInstance;have stb:Ag Ab w wa:=Aa;have HLB:Hid (N0+n9=(X0++Ae [v,e0,(n:Int)]).length):=Lib.hid (by rw[List.length_append,←HLN.out,←HN9.out]);have hnb:N0+n9≤57:=by omega
  clear hn9 hl9 hn hoa os0 hwA0 hAa HLN hta hl5 ht5;generalize N0+n9=N1 at*;generalize wa=w2 at*;generalize A'=A1 at*;generalize c'=c1 at*;obtain⟨X1,hX1⟩: ∃X,X=X0++Ae [v,e0,(n:Int)]:=⟨_,rfl⟩;rw[←hX1] at hob HLB;have HX1:=Lib.hid hX1;clear hX1;go_loopw [4,5] (fun bv iv wr=>∃(k:Nat) (A2:Option Addr) (n2 c2:Nat),k≤n∧iv= .int .i64 (k:Int)∧bv= .slice A2 n2 c2∧Ag Ab w wr∧HO wr 5 1 A2 n2 c2 (bs (X1++Im (P.take k)))∧Aj w A2∧As (An A2) zt∧n2≤57+200*k∧Hid (n2=(X1++Im (P.take k)).length)∧HB wr zt 66 #[.string (Al nm), .int .i64 v, .int .i64 e0, .slice A n c, .slice C m d]) (fun _ iv _=>n -(intOf iv).toNat)
  case atStart=>exact⟨0,A1,N1,c1,Nat.zero_le _,rfl,rfl,stb,by simpa[Im] using hob,hAb,osb,by omega,Lib.hid (by simpa[Im] using HLB.out),htb⟩
  case round=>
   clear hob hAb osb stb htb HLB hnb;obtain⟨k,A2,n2,c2,hk,rfl,rfl,_,hO,hA2,os,hn2,HN2,ht⟩:=hrel;have st:Ag Ab w wr:=inferInstance;have nr:Nw w wr:=⟨st.chg⟩;have hrw:HR wr A (cellsOf P):=⟨HRR.out.later st.chg⟩;have hl:P.length=n:=HL.out;by_cases hlt:k<n
   ·have hltI:(k:Int)<n:=by omega
    have hkl:k<P.length:=by omega
    have HTK:Hid (X1++Im (P.take k)++NL (gt P k)=X1++Im (P.take (k+1))):=Lib.hid (by rw[Yc P k hkl];simp);have HOK:=Lib.hid (HPA.out _ (BD P k hkl));go_wp2_with (first|((with_reducible apply Ac);exact rfl;infer_instance;(first|(exact rfl)|(exact tg_hw _)|(exact tg_ctr _)|(exact tg_ecu _)|(exact srch_who)|exact srch_fd))|(refine Ja Ad 63 ?_)|(refine Rk Ad 44 ?_));refine(PD (gt P k) HOK.out _).mono ?_;rintro e w7 ⟨A7,n7,c7,rfl,st7,hO7,hA7,hn7,hl7⟩;have hr7:HR w7 A7 (bs (NL (gt P k))):=⟨hO7.out.rd⟩;have hl7':(NL (gt P k)).length =n7:=hl7.symm;have HN7:=Lib.hid hl7;clear hO7 hl7;go_wp2_with (first|(refine NO ?_;intro A' c' wa _ _ _ hcap));refine⟨⟨k+1,A',n2+n7,c',by omega,by go_num,rfl,Aa, ?_,inferInstance,inferInstance,by omega,Lib.hid ?_,inferInstance⟩,by simp[intOf];omega⟩
    ·rw[←HTK.out]
     infer_instance
    rw[←HTK.out,List.length_append,←HN2.out,←HN7.out]
   have hltI: ¬(k:Int)<n:=by omega
   have hkn:k=n:=by omega
   have hfin:P.take k=P:=List.take_of_length_le (by omega);rw[hfin] at hO HN2;have hn2':n2≤57+200*16:=by omega
   clear hkn hfin hn2;obtain⟨X2,hX2⟩: ∃X,X=X1++Im P:=⟨_,rfl⟩;rw[←hX2] at hO HN2;have HX2:=Lib.hid hX2;clear hX2;go_wp2_with (first|((with_reducible apply Ac);exact rfl;infer_instance;(first|(exact rfl)|(exact tg_hw _)|(exact tg_ctr _)|(exact tg_ecu _)|(exact srch_who)|exact srch_fd)));refine(CQ (m:Int) _).mono ?_;rintro e w8 ⟨A8,n8,c8,rfl,hF⟩;have st8:Ag Ab _ w8:=⟨hF.out.chg⟩;have hr8:HR w8 A8 (bs (Ae [(m:Int)])):=⟨by rw[Bk];exact hF.out.own.rd⟩;have hl8:(Ae [(m:Int)]).length =n8:=by rw[Bk];exact hF.out.len.symm
   have HN8:Hid (n8=(Ae [(m:Int)]).length):=Lib.hid hl8.symm;have hn8:n8≤9:=by
    have:=H4.out;omega
   clear hF;go_wp2_with (first|(refine NO ?_;intro A' c' wa _ _ _ hcap));have hob:HO wa 5 1 A' (n2+n8) c' (bs (X2++Ae [(m:Int)])):=inferInstance;have htb:HB wa zt 66 #[.string (Al nm), .int .i64 v, .int .i64 e0, .slice A n c, .slice C m d]:=inferInstance;have hAb:Aj w A':=inferInstance;have osb:As (An A') zt:=inferInstance;have stb:Ag Ab w wa:=Aa;have HLB:Hid (n2+n8=(X2++Ae [(m:Int)]).length):=Lib.hid (by rw[List.length_append,←HN2.out,←HN8.out]);have hnb:n2+n8≤3300:=by omega
   clear hn8 hl8 hO os hA2 HN2 ht hn2' st nr hrw;generalize n2+n8=N3 at*;generalize wa=w3 at*;generalize A'=A3 at*;generalize c'=c3 at*;obtain⟨X3,hX3⟩: ∃X,X=X2++Ae [(m:Int)]:=⟨_,rfl⟩;rw[←hX3] at hob HLB;have HX3:=Lib.hid hX3;clear hX3;go_loopw [4,6] (fun bv iv wr=>∃(k:Nat) (A2:Option Addr) (n2 c2:Nat),k≤m∧iv= .int .i64 (k:Int)∧bv= .slice A2 n2 c2∧Ag Ab w wr∧HO wr 5 1 A2 n2 c2 (bs (X3++JH (D.take k)))∧Aj w A2∧As (An A2) zt∧n2≤3300+300*k∧Hid (n2=(X3++JH (D.take k)).length)∧HB wr zt 66 #[.string (Al nm), .int .i64 v, .int .i64 e0, .slice A n c, .slice C m d]) (fun _ iv _=>m -(intOf iv).toNat)
   case atStart=>exact⟨0,A3,N3,c3,Nat.zero_le _,rfl,rfl,stb,by simpa[JH] using hob,hAb,osb,by omega,Lib.hid (by simpa[JH] using HLB.out),htb⟩
   case round=>
    clear hob hAb osb stb htb HLB hnb;obtain⟨k,A2,n2,c2,hk,rfl,rfl,_,hO,hA2,os,hn2,HN2,ht⟩:=hrel;have st:Ag Ab w wr:=inferInstance;have nr:Nw w wr:=⟨st.chg⟩;have hqw:HR wr C (cellsOf D):=⟨HQQ.out.later st.chg⟩;have hm:D.length=m:=HM.out;by_cases hlt:k<m
    ·have hltI:(k:Int)<m:=by omega
     have hkl:k<D.length:=by omega
     have HTK:Hid (X3++JH (D.take k)++Xr (gt D k)=X3++JH (D.take (k+1))):=Lib.hid (by rw[Ye D k hkl];simp);have HOK:=Lib.hid (HDA.out _ (BD D k hkl));have HDI:=Lib.hid (HDL.out _ (BD D k hkl)).1;go_wp2_with (first|((with_reducible apply Ac);exact rfl;infer_instance;(first|(exact rfl)|(exact tg_hw _)|(exact tg_ctr _)|(exact tg_ecu _)|(exact srch_who)|exact srch_fd))|(refine Ja Ax 64 ?_)|(refine Rk Ax 213 ?_));refine(TB (gt D k) HOK.out (FG.nw (w0:=w) HDI.out)).mono ?_;rintro e w7 ⟨A7,n7,c7,rfl,st7,hO7,hA7,hn7,hl7⟩;have hr7:HR w7 A7 (bs (Xr (gt D k))):=⟨hO7.out.rd⟩;have hl7':(Xr (gt D k)).length =n7:=hl7.symm;have HN7:=Lib.hid hl7;clear hO7 hl7;go_wp2_with (first|(refine NO ?_;intro A' c' wa _ _ _ hcap));refine⟨⟨k+1,A',n2+n7,c',by omega,by go_num,rfl,Aa, ?_,inferInstance,inferInstance,by omega,Lib.hid ?_,inferInstance⟩,by simp[intOf];omega⟩
     ·rw[←HTK.out]
      infer_instance
     rw[←HTK.out,List.length_append,←HN2.out,←HN7.out]
    have hltI: ¬(k:Int)<m:=by omega
    have hkn:k=m:=by omega
    have hfin:D.take k=D:=List.take_of_length_le (by omega);rw[hfin] at hO HN2;clear hkn hfin;go_wp2_with (first|((with_reducible apply Ac);exact rfl;infer_instance;(first|(exact rfl)|(exact tg_hw _)|(exact tg_ctr _)|(exact tg_ecu _)|(exact srch_who)|exact srch_fd)));rw[HX3.out,HX2.out,HX1.out,HX0.out] at hO HN2
    go_ret2
    exact⟨Aa,A2,n2,c2,rfl,by have h9:=HN2.out;simpa using h9,by simpa only[List.append_assoc] using hO,hA2⟩
end Go.Proofs.YtjjhceeookpieaaGreat
end
