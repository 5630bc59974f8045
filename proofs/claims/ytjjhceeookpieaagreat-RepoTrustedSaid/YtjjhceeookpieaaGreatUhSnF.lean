/- UhSnF, UhSnG -/
import Derived.Test.YtjjhceeookpieaaGreatUhZ
import Derived.Test.YtjjhceeookpieaaGreatUhSnB
import Derived.Test.YtjjhceeookpieaaGreatUhTgD
import Derived.Test.YtjjhceeookpieaaGreatUhRoI
import Derived.Test.YtjjhceeookpieaaGreatUhWuB
section
set_option maxRecDepth 100000
set_option maxHeartbeats 3200000
open Go Go.RowKit
namespace Go.Proofs.YtjjhceeookpieaaGreat
theorem Zl {w0 w:World} {A:Option Addr} {n c:Nat} {xs:List UInt8} (h:Co w0 w A n c xs):HO w 5 1 A n c (bs xs):=⟨h.own⟩
theorem Fo (v e0:Int) {A:Option Addr} {n c:Nat} {P:List AE} {w:World} [hr:HR w A (cellsOf P)] (hl:P.length=n) (hmax:n≤1000000000) (hnm: ∀p∈P,p.l.length≤9223372036854775807):
    Calls Tryz.prog 148 #[.agg #[.int .i64 v, .int .i64 e0, .slice A n c]] w (AR (BO v e0 P) (CY v e0 P) w):=by
 have HRR:=Lib.hid hr.out;have HL:=Lib.hid hl;have HNM:=Lib.hid hnm;have HE:Hid (CY v e0 P=Ae [3,v,e0,(n:Int)]++EJ P):=Lib.hid (by rw[Abz,hl]);have HE4:Hid ((Ae [3,v,e0,(n:Int)]).length ≤36):=Lib.hid (Az [3,v,e0,(n:Int)]);rw[HE.out];clear HE;unfold AR;cases hb:BO v e0 P
 case false=>
  go_enter Tryz.func148,Tryz.ntmps148;go_wp2_with (first|(refine Bv 1 ?_;intro zt wzt _ _ _)|(refine Cp ?_));refine(Kz v e0 (P:=P) hl hmax hnm).mono ?_;rw[hb];rintro e w5 ⟨rfl,_⟩;go_wp2_with fail
  go_ret2
  exact⟨Aa,rfl⟩
 case true=>
  have hb2:P.length≤16∧P.all Cd=true:=by
   have h9:=hb;unfold BO at h9;simp only[Bool.and_eq_true,decide_eq_true_eq] at h9;exact⟨h9.1.1.2,h9.1.2⟩
  have HP16:Hid (n≤16):=Lib.hid (by rw[←hl];exact hb2.1);have HPA:=Lib.hid hb2.2;have kb4:=Vb 3 v e0 (n:Int);clear hb2;go_enter Tryz.func148,Tryz.ntmps148;go_wp2_with (first|(refine Bv 1 ?_;intro zt wzt _ _ _)|(refine Cp ?_));refine(Kz v e0 (P:=P) hl hmax hnm).mono ?_;rw[hb];rintro e w5 ⟨rfl,_⟩;have n5:Nw w w5:=inferInstance;have hl5:=(inferInstance:HB w5 zt 39 #[.int .i64 v, .int .i64 e0, .slice A n c]).out.lt;clear hl hnm;go_wp2_with (first|(refine BM 16 (kb4 _) ?_;intro zi wb _ _ _)|((with_reducible apply Ac);exact rfl;infer_instance;(first|(exact rfl)|(exact tg_hw _)|(exact tg_ctr _)|(exact tg_ecu _)|(exact srch_who)|exact srch_fd)));refine(FJ (some ⟨zi,0,none⟩) 4 4 [3,v,e0,(n:Int)] _ (HB.rdL (z:=zi) (t:=3) (cs:=#[.int .i64 3, .int .i64 v, .int .i64 e0, .int .i64 (n:Int)]) inferInstance) rfl (show 4≤1000000000 by decide)).mono ?_;rintro e w6 ⟨A6,n6,c6,rfl,hF⟩;have st6:Ag Ab _ w6:=⟨hF.out.chg⟩;have hsz6:w5.heap.size≤wb.heap.size:=(inferInstance:Ay w5 wb).out;have hA6:Aj w A6:=⟨fun ad e=>Nat.le_trans (Nat.le_trans n5.out.size hsz6) (hF.out.new ad e)⟩;have ho6:HO w6 5 1 A6 n6 c6 (bs (Ae [3,v,e0,(n:Int)]++EJ (P.take 0))):=by
   have h1:=Zl hF.out;simpa[EJ] using h1
  have hn6:n6≤36:=by
   have h1:=hF.out.len;have:=HE4.out;omega
  have HN6:Hid (n6=(Ae [3,v,e0,(n:Int)]++EJ (P.take 0)).length):=Lib.hid (by rw[hF.out.len];simp[EJ]);have os:As (An A6) zt:=⟨fun⟨ad,e,hk⟩=>by
   have h1:=Nat.le_trans hsz6 (hF.out.new ad e);omega⟩
  have ht6:HB w6 zt 39 #[.int .i64 v, .int .i64 e0, .slice A n c]:=inferInstance;clear hF;go_wp2_with fail;go_loopw [4,5] (fun bv iv wr=>∃(k:Nat) (A1:Option Addr) (n1 c1:Nat),k≤n∧iv= .int .i64 (k:Int)∧bv= .slice A1 n1 c1∧Ag Ab w wr∧HO wr 5 1 A1 n1 c1 (bs (Ae [3,v,e0,(n:Int)]++EJ (P.take k)))∧Aj w A1∧As (An A1) zt∧n1≤36+40*k∧Hid (n1=(Ae [3,v,e0,(n:Int)]++EJ (P.take k)).length)∧HB wr zt 39 #[.int .i64 v, .int .i64 e0, .slice A n c]) (fun _ iv _=>n -(intOf iv).toNat)
  case atStart=>exact⟨0,A6,n6,c6,Nat.zero_le _,rfl,rfl,Aa,ho6,hA6,os,by omega,HN6,ht6⟩
  case round=>
   clear ho6 hA6 os hn6 ht6 st6 n5 HN6 hsz6 hl5;obtain⟨k,A1,n1,c1,hk,rfl,rfl,_,hO,hA1,os,hn1,HN1,ht⟩:=hrel;have st:Ag Ab w wr:=inferInstance;have nr:Nw w wr:=⟨st.chg⟩;have hrw:HR wr A (cellsOf P):=⟨HRR.out.later st.chg⟩;have hl:P.length=n:=HL.out;have h16:=HP16.out;by_cases hlt:k<n
   ·have hltI:(k:Int)<n:=by omega
    have hkl:k<P.length:=by omega
    have hpl:(gt P k).l.length ≤12:=by
     have h3:=List.all_eq_true.1 HPA.out _ (BD P k hkl);unfold Cd Bl at h3;simp only[Bool.and_eq_true,decide_eq_true_eq] at h3;exact h3.1.1.2
    have HRL:Hid ((Ap (gt P k).l).length ≤21):=Lib.hid (by have:=Dr (gt P k).l (by omega);omega);have HVL:Hid ((Ae [(gt P k).v]).length ≤9):=Lib.hid (Az [(gt P k).v]);have HTK:Hid (Ae [3,v,e0,(n:Int)]++EJ (P.take k)++Ap (gt P k).l ++Ae [(gt P k).v]=Ae [3,v,e0,(n:Int)]++EJ (P.take (k+1))):=Lib.hid (by rw[Wv P k hkl,Kg];simp);have hws:w.heap.size≤wr.heap.size:=nr.out.size;go_wp2_with (first|((with_reducible apply Ac);exact rfl;infer_instance;(first|(exact rfl)|(exact tg_hw _)|(exact tg_ctr _)|(exact tg_ecu _)|(exact srch_who)|exact srch_fd)));refine Ah ((An A1)) (by kernel_rfl) (fun wd _ _=> ?_);refine YS 0 ?_;refine YS 1 ?_;refine' tk 2 _ rfl (by kernel_rfl) (by kernel_rfl) (by kernel_rfl) (fun _ _ _ h=>h) (yo (by rfl) fun w' _=> ?_) inferInstance ?_;rotate_left
    ·((apply Ai);exact rfl;infer_instance;infer_instance;(first|(exact rfl)|(exact tg_hw _)|(exact tg_ctr _)|(exact tg_ecu _)|(exact srch_who)|exact srch_fd))
    try simp only[Act.put,sA,sB,sC]
    refine YS 3 ?_;refine Gx 4 AE 37 ?_;refine Jh 5 101 Tryz.underlying101 ?_;refine' tk 6 _ rfl (by kernel_rfl) (by kernel_rfl) (by kernel_rfl) (fun _ _ _ h=>h) (yo (by rfl) fun w' _=> ?_) inferInstance ?_;rotate_left
    ·((apply(Cg (α:=AE)));infer_instance;exact rfl;infer_instance;exact rfl;(first|(with_reducible assumption)|omega|(focus (simp;done))|(focus (simp;omega;done))|decide);(first|(exact rfl)|(exact tg_hw _)|(exact tg_ctr _)|(exact tg_ecu _)|(exact srch_who)|exact srch_fd))
    try simp only[Act.put,sA,sB,sC]
    refine YS 9 ?_;refine' tk 10 _ rfl (by kernel_rfl) (by kernel_rfl) (by kernel_rfl) (fun _ _ _ h=>h) (yo (by rfl) fun w' _=> ?_) inferInstance ?_;rotate_left
    ·((apply Ai);exact rfl;infer_instance;infer_instance;(first|(exact rfl)|(exact tg_hw _)|(exact tg_ctr _)|(exact tg_ecu _)|(exact srch_who)|exact srch_fd))
    try simp only[Act.put,sA,sB,sC]
    refine YS 11 ?_;refine Gx 12 AE 37 ?_;refine Jh 13 101 Tryz.underlying101 ?_;refine' tk 14 _ rfl (by kernel_rfl) (by kernel_rfl) (by kernel_rfl) (fun _ _ _ h=>h) (yo (by rfl) fun w' _=> ?_) inferInstance ?_;rotate_left
    ·((apply(Cg (α:=AE)));infer_instance;exact rfl;infer_instance;exact rfl;(first|(with_reducible assumption)|omega|(focus (simp;done))|(focus (simp;omega;done))|decide);(first|(exact rfl)|(exact tg_hw _)|(exact tg_ctr _)|(exact tg_ecu _)|(exact srch_who)|exact srch_fd))
    try simp only[Act.put,sA,sB,sC]
    refine Yg 7 fun K_ hK_=> ?_
    go_simp;refine(EC (Al (gt P k).l) (gt P k).l rfl (by omega) _).mono ?_;rintro e w7 ⟨A7,n7,c7,rfl,hF⟩;have st7:Ag Ab _ w7:=⟨hF.out.chg⟩;have hr7:HR w7 A7 (bs (Ap (gt P k).l)):=⟨hF.out.own.rd⟩;have HN7:Hid (n7=(Ap (gt P k).l).length):=Lib.hid hF.out.len;have hl7:(Ap (gt P k).l).length =n7:=hF.out.len.symm;have hn7:n7≤21:=by
     have:=HRL.out;omega
    clear hF;refine Yz hK_ ?_;clear hK_ K_;refine Yh 8 fun K_ hK_=> ?_
    (first|(refine NO ?_;intro A' c' wa _ _ _ hcap)|(refine XF ?_;intro A' c' wa _ _ _ hcap)|(refine WAR AE ?_;intro A' c' wa _ _ _ hcap))
    refine Yn hK_ ?_;clear hK_ K_;refine Yg 15 fun K_ hK_=> ?_
    go_simp;refine(CQ (gt P k).v _).mono ?_;rintro e w9 ⟨A9,n9,c9,rfl,hF⟩;have st9:Ag Ab _ w9:=⟨hF.out.chg⟩;have hr9:HR w9 A9 (bs (Ae [(gt P k).v])):=⟨by rw[Bk];exact hF.out.own.rd⟩;have hl9:(Ae [(gt P k).v]).length =n9:=by rw[Bk];exact hF.out.len.symm
    have HN9:Hid (n9=(Ae [(gt P k).v]).length):=Lib.hid hl9.symm;have hn9:n9≤9:=by
     have:=HVL.out;omega
    clear hF;refine Yz hK_ ?_;clear hK_ K_;refine Yh 16 fun K_ hK_=> ?_
    (first|(refine NO ?_;intro A' c' wa _ _ _ hcap)|(refine XF ?_;intro A' c' wa _ _ _ hcap)|(refine WAR AE ?_;intro A' c' wa _ _ _ hcap))
    refine Yn hK_ ?_;clear hK_ K_;refine YS 17 ?_;refine Yd ?_
    all_goals
     go_wp2_with fail;refine⟨⟨k+1,A',n1+n7+n9,c',by omega,by go_num,rfl,Aa, ?_,inferInstance,inferInstance,by omega,Lib.hid ?_,inferInstance⟩,by simp[intOf];omega⟩
     ·rw[←HTK.out]
      infer_instance
     rw[←HTK.out,List.length_append,List.length_append,←HN1.out,←HN7.out,←HN9.out]
   have hltI: ¬(k:Int)<n:=by omega
   have hkn:k=n:=by omega
   have hfin:P.take k=P:=List.take_of_length_le (by omega);rw[hfin] at hO HN1;clear hkn hfin;go_wp2_with (first|((with_reducible apply Ac);exact rfl;infer_instance;(first|(exact rfl)|(exact tg_hw _)|(exact tg_ctr _)|(exact tg_ecu _)|(exact srch_who)|exact srch_fd)))
   go_ret2
   exact⟨Aa,A1,n1,c1,rfl,by have h9:=HN1.out;simpa using h9,hO,hA1⟩
end Go.Proofs.YtjjhceeookpieaaGreat
end
section
set_option maxRecDepth 100000
set_option maxHeartbeats 6400000
open Go Go.RowKit
namespace Go.Proofs.YtjjhceeookpieaaGreat
theorem Xp (s:RS): ∀k,∀p∈LQ Cx s k,p.l.length≤s.b.length
 |0,p,hp=>by cases hp
 |k+1,p,hp=>by
  rw[LQ,List.mem_append] at hp;rcases hp with h|h
  ·exact Xp s k p h
  rw[List.mem_singleton.1 h];exact Nat.le_trans (RS.row_1 _) (JE.tkS_le s k)
theorem Aby (l:List UInt8) (w:World):(Instr.build 101 #[(0, .string (Al l))]).run Tryz.prog w= .ok (.agg #[.string (Al l), .int .i64 0]) w:=by kernel_rfl
theorem Zm (l:List UInt8) (v:Int) (w:World):(Instr.buildSlice 37 1 #[(0, .agg #[.string (Al l), .int .i64 v])]).run Tryz.prog w= .ok (.slice (some ⟨w.heap.size,0,none⟩) 1 1) (w.alloc (.cells (cellsOf [(⟨l,v⟩:AE)]).toArray 101)):=by kernel_rfl
theorem LN {A:Option Addr} {n c:Nat} {b:List UInt8} {w:World} [hr:HR w A (bs b)] (hl:b.length=n) (hcap:n≤c) (hn:n≤140737488351232):
    Calls Tryz.prog 78 #[.slice A n c] w (Afh b w):=by
 obtain⟨S,hS⟩: ∃S,S=AO 3 b:=⟨_,rfl⟩;obtain⟨S2,hS2⟩: ∃S2,S2=S.at 2:=⟨_,rfl⟩;obtain⟨S3,hS3⟩: ∃S3,S3=S2.num.2:=⟨_,rfl⟩;obtain⟨N,hN⟩: ∃N,N=S2.num.1:=⟨_,rfl⟩;obtain⟨V,hV⟩: ∃V,V=S.num.1:=⟨_,rfl⟩;obtain⟨X,hX⟩: ∃X,X=(S.at 1).num.1 :=⟨_,rfl⟩;have hSl:S.b.length≤140737488351232:=by
  have:=Ir 3 b;rw[←hS] at this;omega
 have hS2l:S2.b.length≤S.b.length:=by rw[hS2];exact S.at_le 2
 have hS3l:S3.b.length≤S.b.length:=by rw[hS3];exact Nat.le_trans (RS.num_le S2) hS2l
 have hM:snM b=if Gf b then((V:Int),(X:Int),KY b,(0:Int)) else(0,0,[],2):=by
  rw[snM,Qc,Qd,←hS,←hV,←hX]
 have hRF: ∀(P:List AE) (s':RS),MC Cx 16 S2 P s'→(Cv s'&&BO V X P&&decide (b=CY V X P))=Gf b∧(Gf b=true→P=KY b):=fun P s' h=>by
  have h1:=Agm (b:=b) (P:=P) (s':=s') (by rw[ZH,←hS,←hS2];exact h);rwa[Qc,Qd,←hS,←hV,←hX] at h1
 have HM:=Lib.hid hM;have HRF:=Lib.hid hRF;have HRR:=Lib.hid hr.out;have HS:=Lib.hid hS;have HV:Hid (S.num.1=V):=Lib.hid hV.symm;have HX:Hid ((S.at 1).num.1 =X):=Lib.hid hX.symm;have HS2:Hid (S.at 2=S2):=Lib.hid hS2.symm;have HS3:Hid (S2.num.2=S3):=Lib.hid hS3.symm;have HN:Hid (S2.num.1=N):=Lib.hid hN.symm;have HLE:=Lib.hid hl;have kb0: ∀w,(Instr.build 39 #[]).run Tryz.prog w= .ok (.agg #[.int .i64 0, .int .i64 0, .slice none 0 0]) w:=fun _=>by kernel_rfl
 unfold Afh;clear hS hS2 hS3 hN hV hX hM hRF;go_enter Tryz.func78,Tryz.ntmps78;go_wp2_with (first|(refine BB 2 ?_;intro zo wzo _ _ _));have hro:HR wzo A (bs b):=⟨HRR.out.later (Aa (w0:=w) (w:=wzo)).chg⟩;have hzow:w.heap.size≤zo:=Nat.le_of_eq (inferInstance:AW w zo).eq.symm;refine(FL (kind:=3) (b:=b) HLE.out hcap (by omega)).mono ?_;rintro e w5 ⟨zr,d,rfl,_,hzr,hltr,h5,hdw⟩;rw[←HS.out] at h5;have hszo:w.heap.size≤wzo.heap.size:=(inferInstance:Ay w wzo).out;have hzw:w.heap.size≤zr:=Nat.le_trans hszo hzr;have ag:Cn w (only zr):=⟨fun k h=>by have h':k=zr:=h;omega⟩;have hzol:=(inferInstance:HB wzo zo 39 #[.int .i64 0, .int .i64 0, .slice none 0 0]).out.lt;have ozr:As (only zr) zo:=⟨fun e=>by have e':zo=zr:=e;omega⟩;have hd5:S.b≠[]→d<w5.heap.size:=fun h=>h5.out.dlt h
 have H5:=Lib.hid h5;clear h5;go_wp2_with (first|(refine BB 5 ?_;intro zt wzt _ _ _));have hzt:w5.heap.size≤zt:=Nat.le_of_eq (inferInstance:AW w5 zt).eq.symm;have hztl:zt<wzt.heap.size:=(inferInstance:HB wzt zt 39 #[.int .i64 0, .int .i64 0, .slice none 0 0]).out.lt;have otr:As (only zr) zt:=⟨fun e=>by have e':zt=zr:=e;omega⟩;have hs5:wzo.heap.size≤w5.heap.size:=(inferInstance:Ay wzo w5).out;have hst5:w5.heap.size≤wzt.heap.size:=(inferInstance:Ay w5 wzt).out;have at_:Cn w (only zt):=⟨fun k h=>by have h':k=zt:=h;omega⟩;have oto:As (only zt) zo:=⟨fun e=>by have e':zo=zt:=e;omega⟩;have hszt:w.heap.size≤wzt.heap.size:=(inferInstance:Ay w wzt).out;have far: ∀(s:RS) (w1 w2:World),s.b.length≤S.b.length→Ag (only zt) w1 w2→Bn w1 zr d s→Bn w2 zr d s:=fun s w1 w2 hs st h=>h.chg2 st.chg (fun e=>by have e':zr=zt:=e;omega) (fun hne e=>by have e':d=zt:=e;have:=hd5 (Fx hs hne);omega)
 have l1:(S.at 1).b.length ≤S.b.length:=S.at_le 1;have H5b:=Lib.hid (H5.out.out.chg (Aa (w0:=w5) (w:=wzt)).chg (fun h=>h) (fun h=>h));refine(AV zr d S wzt H5b.out (by omega)).mono ?_;rw[HV.out];rintro e w6 ⟨rfl,h6,c6⟩;have st6:Ag (only zr) wzt w6:=⟨c6.out⟩;have ht6:HB w6 zt 39 #[.int .i64 0, .int .i64 0, .slice none 0 0]:=inferInstance;have hC6:Hid (Au (GE zr zt) wzt w6):=Lib.hid (c6.out.mono (T:=GE zr zt) (fun _ _ h=> .inl h));go_wp2_with (first|(refine KZ ?_;intro ws _ _));have ht6b:HB ws zt 39 #[.int .i64 V, .int .i64 0, .slice none 0 0]:=HB.row_eqR (w:=ws) (g:=zt) inferInstance rfl;have H6b:=Lib.hid (far (S.at 1) w6 ws l1 inferInstance h6.out);have hC6b:Hid (Au (GE zr zt) wzt ws):=Lib.hid (hC6.out.trans (inferInstance:Ag (only zt) w6 ws).chg (fun _ _ h=> .inr h));clear h6 c6;refine(AV zr d (S.at 1) _ H6b.out (by omega)).mono ?_;rw[HX.out];rintro e w7 ⟨rfl,h7,c7⟩;have st7:Ag (only zr) ws w7:=⟨c7.out⟩;have ht7:HB w7 zt 39 #[.int .i64 V, .int .i64 0, .slice none 0 0]:=inferInstance;have hC7:Hid (Au (GE zr zt) wzt w7):=Lib.hid (hC6b.out.trans c7.out (fun _ _ h=> .inl h));have hzo7:HB w7 zo 39 #[.int .i64 0, .int .i64 0, .slice none 0 0]:=inferInstance;clear ht6b ht6 c7 hC6 hC6b;go_wp2_with (first|((with_reducible apply AU);exact rfl;exact rfl;exact ht7;exact rfl;exact(show 1<3 by decide);intro wk _ ht8r;have ht8:HB wk zt 39 #[.int .i64 V, .int .i64 X, .slice none 0 0]:=HB.row_eqR ht8r rfl;clear ht8r));have hzo8:HB wk zo 39 #[.int .i64 0, .int .i64 0, .slice none 0 0]:=inferInstance;have H8:Hid (Bn wk zr d S2):=Lib.hid (far S2 w7 wk hS2l inferInstance (by rw[←HS2.out];exact h7.out));have hC8:Hid (Au (GE zr zt) wzt wk):=Lib.hid (hC7.out.trans (inferInstance:Ag (only zt) w7 wk).chg (fun _ _ h=> .inr h));clear h7 ht7 hzo7 hC7;refine(AV zr d S2 _ H8.out (by omega)).mono ?_;rw[HN.out,HS3.out];rintro e w8 ⟨rfl,h8,c8⟩;have st8:Ag (only zr) wk w8:=⟨c8.out⟩;have ht8b:HB w8 zt 39 #[.int .i64 V, .int .i64 X, .slice none 0 0]:=inferInstance;have hzo8b:HB w8 zo 39 #[.int .i64 0, .int .i64 0, .slice none 0 0]:=inferInstance;have hC8b:Hid (Au (GE zr zt) wzt w8):=Lib.hid (hC8.out.trans c8.out (fun _ _ h=> .inl h));have hs8:wzt.heap.size≤w8.heap.size:=hC8b.out.size;clear c8 ht8 hzo8 hC8;go_wp2_with fail;go_loopw [7] (fun iv wr=>∃(k:Nat) (A1:Option Addr) (c1:Nat),k≤N∧k≤17∧iv= .int .i64 (k:Int)∧k≤c1∧Hid (Au (GE zr zt) wzt wr)∧HO wr 101 2 A1 k c1 (cellsOf (LQ Cx S3 k))∧Aj wzt A1∧HB wr zt 39 #[.int .i64 V, .int .i64 X, .slice A1 k c1]∧HB wr zo 39 #[.int .i64 0, .int .i64 0, .slice none 0 0]∧Hid (Bn wr zr d (Hi Cx S3 k))) (fun iv _=>17 -(intOf iv).toNat)
 case atStart=>exact⟨0,none,0,Nat.zero_le _,Nat.zero_le _,rfl,Nat.le_refl _,hC8b,⟨Cm.nil _ _ _⟩,Ck _,ht8b,hzo8b,h8⟩
 case round=>
  clear st8 h8 ht8b hzo8b hC8b hs8;obtain⟨k,A1,c1,hkN,hk17,rfl,hkc,hC,hO,hA1,ht,hzo,hR⟩:=hrel;obtain⟨Ar,nr',cr',hrd⟩:=hR.out.blk;have hsl:=JE.tkS_le S3 k;have hszr:=hC.out.size;by_cases hgo:k<N∧(Hi Cx S3 k).e =false∧k≤16
  ·obtain⟨hlt,hee,hle⟩:=hgo;have hltI:(k:Int)<N:=by omega
   have hleI:(k:Int)≤16:=by omega
   rw[hee] at hrd;obtain⟨s,hs⟩: ∃s,s=Hi Cx S3 k:=⟨_,rfl⟩;have hsk1:Hi Cx S3 (k+1)=s.row.2.num.2:=by rw[hs];rfl
   have hskl:(Hi Cx S3 (k+1)).b.length ≤S.b.length:=Nat.le_trans (JE.tkS_le S3 (k+1)) hS3l;have htl:LQ Cx S3 k++[(⟨s.row.1,(s.row.2.num.1:Nat)⟩:AE)]=LQ Cx S3 (k+1):=by rw[hs];rfl
   have HTL:=Lib.hid htl;have HSK:=Lib.hid hsk1;have HR1:Hid (Bn wr zr d s):=Lib.hid (by rw[hs];exact hR.out);have hsl1:s.b.length≤S.b.length:=by rw[hs];exact Nat.le_trans hsl hS3l
   have hsl2:s.row.2.b.length≤S.b.length:=Nat.le_trans (RS.row_le s) hsl1;obtain⟨L,hL⟩: ∃L,L=s.row.1:=⟨_,rfl⟩;obtain⟨v,hv⟩: ∃v,v=s.row.2.num.1:=⟨_,rfl⟩;have HL:Hid (s.row.1=L):=Lib.hid hL.symm;have HVV:Hid (s.row.2.num.1=v):=Lib.hid hv.symm;have kbU:=Aby L;have kb1:=Zm L (v:Int);have hCr:=hC;have ozA:BW (only zt) A1:=⟨fun ad e h=>by have h':ad.block=zt:=h;have:=hA1.out ad e;omega⟩;have orA:BW (only zr) A1:=⟨fun ad e h=>by have h':ad.block=zr:=h;have:=hA1.out ad e;omega⟩;have orz:As (An A1) zt:=⟨fun⟨ad,e,h⟩=>by have:=hA1.out ad e;omega⟩;have oro:As (An A1) zo:=⟨fun⟨ad,e,h⟩=>by have:=hA1.out ad e;omega⟩;clear hC hR hs hsk1 htl hL hv hsl;go_wp2_with (first|(refine ZJ hrd ?_)|(refine Ct ?_)|(refine CG ?_));refine(CM HR1.out (by omega)).mono ?_;rw[HL.out];rintro e w9 ⟨rfl,st9,h9⟩;have ht9:HB w9 zt 39 #[.int .i64 V, .int .i64 X, .slice A1 k c1]:=inferInstance;have hzo9:HB w9 zo 39 #[.int .i64 0, .int .i64 0, .slice none 0 0]:=inferInstance;have hO9:HO w9 101 2 A1 k c1 (cellsOf (LQ Cx S3 k)):=inferInstance;go_wp2_with (first|(refine Ji (kbU _) ?_)|(refine BB 8 ?_;intro z8 wz8 _ _ _)|(refine Bt ?_;intro ws _ _));have hz8:w9.heap.size≤z8:=Nat.le_of_eq (inferInstance:AW w9 z8).eq.symm;have hp8:HB ws z8 101 #[.string (Al L), .int .i64 0]:=inferInstance;have nw9:Nw w9 ws:=inferInstance;have hr9:zr<w9.heap.size:=h9.out.lt;have o8:As (only zr) z8:=⟨fun e=>by have e':z8=zr:=e;omega⟩;have hztw9:zt<w9.heap.size:=ht9.out.lt;have hzow9:zo<w9.heap.size:=hzo9.out.lt;refine(AV zr d s.row.2 ws (h9.out.chg nw9.out (fun h=>h) (fun h=>h)) (by omega)).mono ?_;rw[HVV.out];rintro e w10 ⟨rfl,h10,c10⟩;have st10:Ag (only zr) ws w10:=⟨c10.out⟩;have hp10:HB w10 z8 101 #[.string (Al L), .int .i64 0]:=inferInstance;have ht10:HB w10 zt 39 #[.int .i64 V, .int .i64 X, .slice A1 k c1]:=inferInstance;have hzo10:HB w10 zo 39 #[.int .i64 0, .int .i64 0, .slice none 0 0]:=inferInstance;have hO10:HO w10 101 2 A1 k c1 (cellsOf (LQ Cx S3 k)):=inferInstance;have hC10:Hid (Au (GE zr zt) wzt w10):=Lib.hid (((hCr.out.trans st9.chg (fun _ _ h=> .inl h)).trans nw9.out (fun _ _ h=>h.elim)).trans c10.out (fun _ _ h=> .inl h));have H10:Hid (Bn w10 zr d (Hi Cx S3 (k+1))):=Lib.hid (by rw[HSK.out];exact h10.out);have hs10:w9.heap.size≤w10.heap.size:=Nat.le_trans nw9.out.size c10.out.size;have o8t:As (only z8) zt:=⟨fun e=>by have e':zt=z8:=e;omega⟩;have o8o:As (only z8) zo:=⟨fun e=>by have e':zo=z8:=e;omega⟩;have o8A:BW (only z8) A1:=⟨fun ad e h=>by
    have h':ad.block=z8:=h;have:=hO9.out.lt e;omega⟩
   clear h9 h10 c10 hp8 ht9 hzo9 hO9;go_wp2_with (first|((with_reducible apply(Bu (dst:=some 45)));(with_reducible apply BP);exact rfl;exact hp11;infer_instance;exact rfl)|((with_reducible apply AU);exact rfl;exact rfl;exact hp10;exact rfl;exact(show 1<2 by decide);intro wk8 _ hp11r;have hp11:HB wk8 z8 101 #[.string (Al L), .int .i64 v]:=HB.row_eqR hp11r rfl;clear hp11r)|(refine BM 46 (kb1 _) ?_;intro zb wb _ _ _)|((with_reducible apply(Bb (α:=AE)));exact rfl;exact rfl;infer_instance;infer_instance;exact HB.cells inferInstance;exact rfl;exact rfl;omega;(decide);(decide);intro A2 c2 wa _ _ hG hcap2)|(refine GU ?_)|(refine KZ ?_;intro ws _ _));have hNX:LQ Cx S3 k++[(⟨L,(v:Nat)⟩:AE)]=LQ Cx S3 (k+1):=by
    have h9:=HTL.out;rwa[HL.out,HVV.out] at h9
   have HNX:=Lib.hid hNX;have hc1:Au (only z8) w10 wk8:=(inferInstance:Ag (only z8) w10 wk8).chg;have hc2:Au (An A1) wk8 wa:=(inferInstance:Ch (An A1) wk8 wa).out;have hc3:Au (only zt) wa ws:=(inferInstance:Ag (only zt) wa ws).chg;have hs9:wzt.heap.size≤w9.heap.size:=Nat.le_trans hszr st9.chg.size;have hsb:w10.heap.size≤wb.heap.size:=(inferInstance:Ay w10 wb).out;have hdk:(Hi Cx S3 (k+1)).b ≠[]→d<w5.heap.size:=fun h=>hd5 (Fx hskl h)
   have hA2:Aj wzt A2:=GC hG hA1 (by omega);clear hNX;refine⟨⟨k+1,A2,c2,by omega,by omega,by go_num,hcap2,Lib.hid ?_, ?_,hA2,inferInstance,inferInstance,Lib.hid ?_⟩,by simp[intOf];omega⟩
   ·exact((hC10.out.trans hc1 (fun x hx h=>by have h':x=z8:=h;omega)).trans hc2 (fun x hx ⟨ad,e,h⟩=>by have:=hA1.out ad e;omega)).trans hc3 (fun _ _ h=> .inr h)
   ·rw[←HNX.out];infer_instance
   exact((H10.out.far hc1 (m:=w5.heap.size) (fun x h=>by have h':x=z8:=h;omega) hltr hdk).far hc2 (m:=w5.heap.size) (fun x ⟨ad,e,h⟩=>by have:=hA1.out ad e;omega) hltr hdk).far hc3 (m:=w5.heap.size) (fun x h=>by have h':x=zt:=h;omega) hltr hdk
  have HGL:Hid (MC Cx 16 S2 (LQ Cx S3 k) (Hi Cx S3 k)):=Lib.hid (by
    refine⟨k,hk17,by rw[HN.out];exact hkN, ?_,by rw[HS3.out],by rw[HS3.out]⟩;rw[HN.out,HS3.out];cases hee:(Hi Cx S3 k).e
    ·by_cases hlt:k<N
     ·exact .inr (.inl (by have: ¬k≤16:=fun h=>hgo ⟨hlt,hee,h⟩;omega))
     exact .inl (by omega)
    exact .inr (.inr rfl))
  have hcase:(¬k<N)∨(k<N∧(Hi Cx S3 k).e =true)∨(k<N∧(Hi Cx S3 k).e =false∧¬k≤16):=by
   by_cases hlt:k<N
   ·cases hee:(Hi Cx S3 k).e
    ·exact .inr (.inr ⟨hlt,rfl,fun h=>hgo ⟨hlt,hee,h⟩⟩)
    exact .inr (.inl ⟨hlt,rfl⟩)
   exact .inl hlt
  obtain⟨s',hs'⟩: ∃s',s'=Hi Cx S3 k:=⟨_,rfl⟩;obtain⟨P,hP⟩: ∃P,P=LQ Cx S3 k:=⟨_,rfl⟩;have hPl:P.length=k:=by rw[hP,Kb]
  have HPN:Hid (∀p∈P,p.l.length≤9223372036854775807):=Lib.hid (fun p hp=>by
   rw[hP] at hp;have:=Xp S3 k p hp;omega)
  have hRF:=HRF.out _ _ HGL.out;rw[←hs',←hP] at hRF;have HF:=Lib.hid hRF;have hsl2:s'.b.length≤140737488351232:=by rw[hs'];omega
  rw[←hs'] at hR hcase hrd;rw[←hP] at hO;have HR':=hR;have hCr:=hC;have HO':Hid (Rd wr A1 (cellsOf P)):=Lib.hid hO.out.rd;obtain⟨I,hI⟩: ∃I,I=BO V X P:=⟨_,rfl⟩;have HI:=Lib.hid hI;have nwr:Nw w wr:=⟨((Aa (w0:=w) (w:=wzt)).chg).trans hC.out (fun x hx h=>by rcases h with h|h<;>omega)⟩;have hrP:HR wr A1 (cellsOf P):=⟨hO.out.rd⟩;clear hgo hC hR hs' hP hRF hI hO HGL hsl;rcases hcase with hlt|⟨hlt,hee⟩|⟨hlt,hee,hle4⟩
  focus
   have hltI: ¬(k:Int)<N:=by omega
   clear hlt;go_wp2_with (first|(refine Cp ?_));refine(Fo V X (P:=P) hPl (by omega) HPN.out).mono ?_
  rotate_left
  focus
   have hltI:(k:Int)<N:=by omega
   rw[hee] at hrd;clear hlt hee;go_wp2_with (first|(refine ZJ hrd ?_)|(refine Ct ?_)|(refine CG ?_)|(refine Cp ?_));refine(Fo V X (P:=P) hPl (by omega) HPN.out).mono ?_
  rotate_left
  focus
   have hltI:(k:Int)<N:=by omega
   have hleI: ¬(k:Int)≤16:=by omega
   rw[hee] at hrd;clear hlt hee hle4;go_wp2_with (first|(refine ZJ hrd ?_)|(refine Ct ?_)|(refine CG ?_)|(refine Cp ?_));refine(Fo V X (P:=P) hPl (by omega) HPN.out).mono ?_
  rotate_left
  all_goals
   unfold AR;rw[←HI.out] at HF⊢;cases I
   case false=>
    have HNO:Hid (Gf b=false):=Lib.hid (by rw[←HF.out.1];simp);rintro e w12 ⟨st12,h12⟩;obtain rfl:e=_:=h12;go_wp2_with fail;have nw12:Nw w w12:=inferInstance;have hb12:HR w12 A (bs b):=nw12.hrR HRR.out;have hn12:HR w12 none (bs []):=HR.nilB w12;have HR12:Bn w12 zr d s':=HR'.out.chg st12.chg (fun h=>h) (fun h=>h);refine(DP (b:=b) (y:=[]) (e0:=1) HR12 (by omega) HLE.out rfl).mono ?_;rw[show(Cv s'&&decide ((1:Int)=0)&&decide (b=[]))=false by simp];rintro e w13 ⟨rfl,rfl⟩;go_wp2_with (first|(refine Ji (kb0 _) ?_)|(refine Bt ?_;intro ws _ _));refine AA rfl rfl rfl (n:=3) rfl rfl ⟨Aa,0,0,none,0,0,[],2,rfl,Lib.hid ⟨?_,rfl,Nat.le_refl _,Nat.zero_le _⟩,Lib.hid (Rd.nil _ _),Ck _⟩;rw[HM.out,HNO.out];rfl
   case true=>
    rintro e w12 ⟨st12,A5,n5,c5,rfl,hn5,hO5,hA5⟩;have HN5:=Lib.hid hn5;have HO5:=Lib.hid hO5.out.rd;clear hn5 hO5;go_wp2_with fail;have nw12:Nw w w12:=inferInstance;have hb12:HR w12 A (bs b):=nw12.hrR HRR.out;have hy12:HR w12 A5 (bs (CY V X P)):=⟨HO5.out⟩;have HR12:Bn w12 zr d s':=HR'.out.chg st12.chg (fun h=>h) (fun h=>h);refine(DP (b:=b) (y:=CY V X P) (e0:=0) HR12 (by omega) HLE.out HN5.out.symm).mono ?_;have e9:(Cv s'&&decide ((0:Int)=0)&&decide (b=CY V X P))=Gf b:=HF.out.1;rw[e9];clear e9;have ht12:HB w12 zt 39 #[.int .i64 V, .int .i64 X, .slice A1 k c1]:=inferInstance;have hzo12:HB w12 zo 39 #[.int .i64 0, .int .i64 0, .slice none 0 0]:=inferInstance;cases hOK:Gf b
    case false=>
     have HNO:=Lib.hid hOK;clear hOK;rintro e w13 ⟨rfl,rfl⟩;go_wp2_with (first|(refine Ji (kb0 _) ?_)|(refine Bt ?_;intro ws _ _));refine AA rfl rfl rfl (n:=3) rfl rfl ⟨Aa,0,0,none,0,0,[],2,rfl,Lib.hid ⟨?_,rfl,Nat.le_refl _,Nat.zero_le _⟩,Lib.hid (Rd.nil _ _),Ck _⟩;rw[HM.out,HNO.out];rfl
    case true=>
     have HYE:Hid (snM b=((V:Int),(X:Int),P,(0:Int))):=Lib.hid (by rw[HM.out,hOK,HF.out.2 hOK];rfl);have HK16:Hid (k≤16):=Lib.hid (by
      have h9:=HI.out.symm;unfold BO at h9;simp only[Bool.and_eq_true,decide_eq_true_eq] at h9;rw[←hPl];exact h9.1.1.2)
     clear hOK;rintro e w13 ⟨rfl,rfl⟩;go_wp2_with (first|(refine Cp ?_)|(refine Bt ?_;intro ws _ _));have hcF:Au (only zo) wr ws:=(inferInstance:Ch (only zo) wr ws).out;refine AA rfl rfl rfl (n:=3) rfl rfl ⟨Aa,V,X,A1,k,c1,P,0,rfl,Lib.hid ⟨HYE.out.symm,hPl,hkc,HK16.out⟩,Lib.hid ?_,⟨fun ad e=>Nat.le_trans hszt (hA1.out ad e)⟩⟩;exact HO'.out.chg hcF (fun _ ad e h=>by
      have h':ad.block=zo:=h;have:=hA1.out ad e;omega)
end Go.Proofs.YtjjhceeookpieaaGreat
end
