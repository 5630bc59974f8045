/- UhTgL, UhFwB, UhFwC, UhFwI, UhFwJ, UhFwD -/
import Derived.Test.YtjjhceeookpieaaGreatUhZ
import Derived.Test.YtjjhceeookpieaaGreatUhTgK
import Derived.Test.YtjjhceeookpieaaGreatUhUnD
import Derived.Test.YtjjhceeookpieaaGreatUhWuB
import Derived.Test.YtjjhceeookpieaaGreatUhRoI
import Derived.Test.YtjjhceeookpieaaGreatUhTgD
section
set_option maxRecDepth 100000
set_option maxHeartbeats 3200000
open Go Go.RowKit
namespace Go.Proofs.YtjjhceeookpieaaGreat
def Ac0 (D:List Ax):Nat→Prop:=fun x=>∃k∈D,Jw k.k.A k.k.l x
def Aj1 (C:Option Addr) (D:List Ax):Nat→Prop:=fun x=>(cellsOf D≠[]∧An C x)∨Ac0 D x
def JH (D:List Ax):List UInt8:=D.flatMap Xr
def Qf (nm:List UInt8) (v e0:Int) (n m:Nat) (P:List Ad) (D:List Ax):List UInt8:=Ap nm++(Ae [v,e0]++((Ae [(n:Int)]++Im P)++(Ae [(m:Int)]++JH D)))
theorem Ac1 (D:List Ax) (h:D.all Fd=true):(JH D).length ≤300*D.length:=by
 induction D with
 |nil=>exact Nat.zero_le _
 |cons p P ih=>
  have e:JH (p::P)=Xr p++JH P:=rfl;rw[List.all_cons,Bool.and_eq_true] at h;have h1:=ih h.2;have h2:=h.1;unfold Fd at h2;simp only[Bool.and_eq_true] at h2;have a1:=Dr p.l (by have:=CE h2.1.1;omega);have a3:=Dr p.pre (by have:=GS h2.2;omega);have b1:=CE h2.1.1;have b3:=GS h2.2;have c1:=LA p.k.l p.k.need;have c2:p.k.l.length≤4:=by
   have h3:=h2.1.2;unfold Nf at h3;simp only[Bool.and_eq_true,decide_eq_true_eq] at h3;exact h3.1.1.1
  have c3:=Az [if p.last then 1 else 0];rw[e,List.length_append,List.length_cons,Xr,Gl];simp only[List.length_append,List.length_cons,List.length_nil] at*;omega
theorem Pe {nm:List UInt8} {v e0:Int} {P:List Ad} {D:List Ax} (h:DO nm v e0 P D=true):Bl nm=true∧P.length≤16∧P.all DX=true∧D.length≤16∧D.all Fd=true:=by
 unfold DO at h;rw[Bool.and_eq_true,Bool.and_eq_true,Bool.and_eq_true,Bool.and_eq_true,Bool.and_eq_true,Bool.and_eq_true,Bool.and_eq_true,Bool.and_eq_true,decide_eq_true_eq,decide_eq_true_eq] at h;exact⟨h.1.1.1.1.1.1.1.1,h.1.1.1.1.1.2,h.1.1.1.1.2,h.1.1.2,h.1.2⟩
theorem Mw (nm:List UInt8) (v e0:Int) {A C:Option Addr} {n c m d:Nat} {P:List Ad} {D:List Ax} {w:World} [hr:HR w A (cellsOf P)] [hq:HR w C (cellsOf D)] (hl:P.length=n) (hm:D.length=m) (hD: ∀k∈D,Vh w k) (hn9:n≤1000000000) (hm9:m≤1000000000):
    Calls Tryz.prog 64 #[.agg #[.string (Al nm), .int .i64 v, .int .i64 e0, .slice A n c, .slice C m d]] w (AF w (Qf nm v e0 n m P D) (fun x=>Aj0 A P x∨Aj1 C D x)):=by
 have HRR:=Lib.hid hr.out;have HL:=Lib.hid hl;have HQQ:=Lib.hid hq.out;have HM:=Lib.hid hm;have HDI:=Lib.hid hD;clear hl hm hD;unfold AF;go_enter Tryz.func64,Tryz.ntmps64;go_wp2_with (first|(refine Bv 1 ?_;intro zt wzt _ _ _));have hwz:=(Aa (w0:=w) (w:=wzt)).chg.size;refine Ah (Ab) (by kernel_rfl) (fun wd _ _=> ?_);refine YS 0 ?_;refine' tk 1 _ rfl (by kernel_rfl) (by kernel_rfl) (by kernel_rfl) (fun _ _ _ h=>h) (yo (by rfl) fun w' _=> ?_) inferInstance ?_;rotate_left
 ·((apply Ai);exact rfl;infer_instance;infer_instance;(first|(exact rfl)|(exact tg_hw _)|(exact tg_ctr _)|(exact tg_ecu _)|(exact srch_who)|exact srch_fd))
 try simp only[Act.put,sA,sB,sC]
 refine YS 3 ?_;refine' tk 4 _ rfl (by kernel_rfl) (by kernel_rfl) (by kernel_rfl) (fun _ _ _ h=>h) (yo (by rfl) fun w' _=> ?_) inferInstance ?_;rotate_left
 ·((apply Ai);exact rfl;infer_instance;infer_instance;(first|(exact rfl)|(exact tg_hw _)|(exact tg_ctr _)|(exact tg_ecu _)|(exact srch_who)|exact srch_fd))
 try simp only[Act.put,sA,sB,sC]
 refine YS 5 ?_;refine' tk 6 _ rfl (by kernel_rfl) (by kernel_rfl) (by kernel_rfl) (fun _ _ _ h=>h) (yo (by rfl) fun w' _=> ?_) inferInstance ?_;rotate_left
 ·((apply Ai);exact rfl;infer_instance;infer_instance;(first|(exact rfl)|(exact tg_hw _)|(exact tg_ctr _)|(exact tg_ecu _)|(exact srch_who)|exact srch_fd))
 try simp only[Act.put,sA,sB,sC]
 refine YS 9 ?_;refine' tk 10 _ rfl (by kernel_rfl) (by kernel_rfl) (by kernel_rfl) (fun _ _ _ h=>h) (yo (by rfl) fun w' _=> ?_) inferInstance ?_;rotate_left
 ·((apply Ai);exact rfl;infer_instance;infer_instance;(first|(exact rfl)|(exact tg_hw _)|(exact tg_ctr _)|(exact tg_ecu _)|(exact srch_who)|exact srch_fd))
 try simp only[Act.put,sA,sB,sC]
 refine YS 12 ?_;refine' tk 13 _ rfl (by kernel_rfl) (by kernel_rfl) (by kernel_rfl) (fun _ _ _ h=>h) (yo (by rfl) fun w' _=> ?_) inferInstance ?_;rotate_left
 ·((apply Ai);exact rfl;infer_instance;infer_instance;(first|(exact rfl)|(exact tg_hw _)|(exact tg_ctr _)|(exact tg_ecu _)|(exact srch_who)|exact srch_fd))
 try simp only[Act.put,sA,sB,sC]
 refine wpAnyH_ready (rs:=[2,7]) (by kernel_rfl) (by simp) (AllReadyH.cons rfl (fun K_ hK_=> ?_) (AllReadyH.cons rfl (fun K_ hK_=> ?_) AllReadyH.nil))
 focus
  go_simp;refine(AD (Al nm) nm rfl _).mono ?_;rintro e w4 ⟨f4,caps4,T4,rfl,_,hL4,hT4⟩;refine Yz hK_ ?_;clear hK_ K_;refine Yh 7 fun K_ hK_=> ?_
  (refine BM 10 (GR _ _ _) ?_;intro zb wb _ _ _)
  refine Yn hK_ ?_;clear hK_ K_;refine Yg 8 fun K_ hK_=> ?_
  go_simp;refine(Ci (z:=zb) (vs:=[v,e0]) rfl rfl (show 9*2≤1000000000 by decide)).mono ?_;rintro e w5 ⟨f5,caps5,T5,rfl,_,hL5,hT5⟩;have hzb:w.heap.size≤zb:=(Aj.monoS (w0:=w) (Aj.of_born (z:=zb) 0)).out ⟨zb,0,none⟩ rfl;refine Yz hK_ ?_;clear hK_ K_;refine Yg 11 fun K_ hK_=> ?_
  go_simp;refine(Nl (l:=P) NL Ab (HRR.out.later (Aa (w0:=w)).chg) HL.out hn9 (fun _ h=>h.elim) (fun x _ w1 _=>IY x w1)).mono ?_;rintro e w6 ⟨f6,caps6,T6,rfl,_,hL6,hT6⟩;refine Yz hK_ ?_;clear hK_ K_;refine Yg 14 fun K_ hK_=> ?_
  go_simp;refine(Nm (l:=D) Xr (Ac0 D) (HQQ.out.later (Aa (w0:=w)).chg) HM.out hm9 (fun x ⟨k,hk,hx⟩=>Nat.lt_of_lt_of_le ((HDI.out k hk).low x hx) (Aa (w0:=w)).chg.size) (fun k hk w1 hc=>(KA k ((BN.chg (HDI.out k hk) (Aa (w0:=w)).chg (fun _ _ h=>h)).chg hc (fun x hx h=>h ⟨k,hk,hx⟩))).mono (AF.mono rfl (fun x hx=>⟨k,hk,hx⟩)))).mono ?_;rintro e w7 ⟨f7,caps7,T7,rfl,_,hL7,hT7⟩;refine Yz hK_ ?_;clear hK_ K_;refine Yh 15 fun K_ hK_=> ?_
  (refine BM 18 (Pn _ _ _ _ _ _ _ _ _) ?_;intro zc wb _ _ _)
  refine Yn hK_ ?_;clear hK_ K_;refine Yg 16 fun K_ hK_=> ?_
  go_simp;refine(SQ (z:=zc) (hL4.later (Aa (w0:=w4)).chg (fun _ _ h=>h)) (hL5.later (Aa (w0:=w5)).chg (fun _ _ h=>h)) (hL6.later (Aa (w0:=w6)).chg (fun _ _ h=>h)) (hL7.later (Aa (w0:=w7)).chg (fun _ _ h=>h))).mono ?_;rintro e w8 ⟨f8,caps8,T8,rfl,_,hL8,hT8⟩;have hzc:w.heap.size≤zc:=(Aj.monoS (w0:=w) (Aj.of_born (z:=zc) 0)).out ⟨zc,0,none⟩ rfl;refine Yz hK_ ?_;clear hK_ K_;refine YS 17 ?_;refine Yd ?_
 rotate_left 1
 focus
  refine Yq ?_
  (refine BM 10 (GR _ _ _) ?_;intro zb wb _ _ _)
  refine Yn hK_ ?_;clear hK_ K_;refine Yg 2 fun K_ hK_=> ?_
  go_simp;refine(AD (Al nm) nm rfl _).mono ?_;rintro e w4 ⟨f4,caps4,T4,rfl,_,hL4,hT4⟩;refine Yz hK_ ?_;clear hK_ K_;refine Yg 8 fun K_ hK_=> ?_
  go_simp;refine(Ci (z:=zb) (vs:=[v,e0]) rfl rfl (show 9*2≤1000000000 by decide)).mono ?_;rintro e w5 ⟨f5,caps5,T5,rfl,_,hL5,hT5⟩;have hzb:w.heap.size≤zb:=(Aj.monoS (w0:=w) (Aj.of_born (z:=zb) 0)).out ⟨zb,0,none⟩ rfl;refine Yz hK_ ?_;clear hK_ K_;refine Yg 11 fun K_ hK_=> ?_
  go_simp;refine(Nl (l:=P) NL Ab (HRR.out.later (Aa (w0:=w)).chg) HL.out hn9 (fun _ h=>h.elim) (fun x _ w1 _=>IY x w1)).mono ?_;rintro e w6 ⟨f6,caps6,T6,rfl,_,hL6,hT6⟩;refine Yz hK_ ?_;clear hK_ K_;refine Yg 14 fun K_ hK_=> ?_
  go_simp;refine(Nm (l:=D) Xr (Ac0 D) (HQQ.out.later (Aa (w0:=w)).chg) HM.out hm9 (fun x ⟨k,hk,hx⟩=>Nat.lt_of_lt_of_le ((HDI.out k hk).low x hx) (Aa (w0:=w)).chg.size) (fun k hk w1 hc=>(KA k ((BN.chg (HDI.out k hk) (Aa (w0:=w)).chg (fun _ _ h=>h)).chg hc (fun x hx h=>h ⟨k,hk,hx⟩))).mono (AF.mono rfl (fun x hx=>⟨k,hk,hx⟩)))).mono ?_;rintro e w7 ⟨f7,caps7,T7,rfl,_,hL7,hT7⟩;refine Yz hK_ ?_;clear hK_ K_;refine Yh 15 fun K_ hK_=> ?_
  (refine BM 18 (Pn _ _ _ _ _ _ _ _ _) ?_;intro zc wb _ _ _)
  refine Yn hK_ ?_;clear hK_ K_;refine Yg 16 fun K_ hK_=> ?_
  go_simp;refine(SQ (z:=zc) (hL4.later (Aa (w0:=w4)).chg (fun _ _ h=>h)) (hL5.later (Aa (w0:=w5)).chg (fun _ _ h=>h)) (hL6.later (Aa (w0:=w6)).chg (fun _ _ h=>h)) (hL7.later (Aa (w0:=w7)).chg (fun _ _ h=>h))).mono ?_;rintro e w8 ⟨f8,caps8,T8,rfl,_,hL8,hT8⟩;have hzc:w.heap.size≤zc:=(Aj.monoS (w0:=w) (Aj.of_born (z:=zc) 0)).out ⟨zc,0,none⟩ rfl;refine Yz hK_ ?_;clear hK_ K_;refine YS 17 ?_;refine Yd ?_
 rotate_left 1
 all_goals
  go_wp2_with fail;go_ret
  first|refine⟨f8,caps8,rfl,Aa,T8,hL8,fun x hx=> ?_⟩|refine⟨f8,caps8,T8,rfl,Aa,hL8,fun x hx=> ?_⟩
  rcases hT8 x hx with h|rfl|h|h|h|h
  ·exact .inl (Nat.le_trans (Aa (w0:=w)).chg.size h)
  ·exact .inl hzc
  ·exact .inl (Nat.le_trans (Aa (w0:=w)).chg.size (hT4 x h))
  ·rcases hT5 x h with h|rfl
   ·exact .inl (Nat.le_trans (Aa (w0:=w)).chg.size h)
   exact .inl hzb
  ·rcases hT6 x h with h|h|h
   ·exact .inl (Nat.le_trans (Aa (w0:=w)).chg.size h)
   ·exact .inr (.inl h)
   exact h.elim
  rcases hT7 x h with h|h|h
  ·exact .inl (Nat.le_trans (Aa (w0:=w)).chg.size h)
  ·exact .inr (.inr (.inl h))
  exact .inr (.inr (.inr h))
theorem Sx (nm:List UInt8) (v e0:Int) {A C:Option Addr} {n c m d:Nat} {P:List Ad} {D:List Ax} {w:World} [hr:HR w A (cellsOf P)] [hq:HR w C (cellsOf D)] (hl:P.length=n) (hm:D.length=m) (hD: ∀k∈D,FG w k) (hmax:n≤9223372036854775807) (hmaxm:m≤9223372036854775807):
    Calls Tryz.prog 62 #[.int .i64 4, .agg #[.string (Al nm), .int .i64 v, .int .i64 e0, .slice A n c, .slice C m d], .func (.func 63) #[] #[], .func (.func 64) #[] #[]] w (AR (DO nm v e0 P D) (Ae [4]++Qf nm v e0 n m P D) w):=by
 have HRR:=Lib.hid hr.out;have HL:=Lib.hid hl;have HQQ:=Lib.hid hq.out;have HM:=Lib.hid hm;have HDW:=Lib.hid hD;clear hl hm hD;unfold AR;rcases hb:DO nm v e0 P D with _|_
 ·go_enter Tryz.func62,Tryz.ntmps62;go_wp2_with (first|(refine Bv 5 ?_;intro zt wzt _ _ _)|(refine Cp ?_));refine(IZ nm v e0 (P:=P) (D:=D) HL.out HM.out hmax hmaxm (fun k hk=>FG.nw (w0:=w) (HDW.out k hk))).mono ?_;rw[hb];rintro e w5 ⟨rfl,_⟩;go_wp2_with fail
  go_ret2
  exact⟨Aa,rfl⟩
 have hin:=Pe hb;have HP:=Lib.hid (UB P hin.2.2.1);have HP16:=Lib.hid hin.2.1;have HD:=Lib.hid (Ac1 D hin.2.2.2.2);have HD16:=Lib.hid hin.2.2.2.1;have HNM:=Lib.hid hin.1;have HDI:Hid (∀k∈D,Vh w k):=Lib.hid (fun k hk=>⟨(HDW.out k hk).rd,(HDW.out k hk).len,(HDW.out k hk).cap,by
  have h8:=List.all_eq_true.1 hin.2.2.2.2 k hk;unfold Fd Nf at h8;simp only[Bool.and_eq_true,decide_eq_true_eq] at h8;have h9:=(HDW.out k hk).len;omega⟩)
 clear hin;go_enter Tryz.func62,Tryz.ntmps62;go_wp2_with (first|(refine Bv 5 ?_;intro zt wzt _ _ _)|(refine Cp ?_));refine(IZ nm v e0 (P:=P) (D:=D) HL.out HM.out hmax hmaxm (fun k hk=>FG.nw (w0:=w) (HDW.out k hk))).mono ?_;rw[hb];rintro e w5 ⟨rfl,_⟩;go_wp2_with (first|(refine BB 10 ?_;intro zw wzw _ _ _));have hzw:=(inferInstance:HB wzw zw 195 #[.slice none 0 0]).out.lt;have n9:Nw w wzw:=inferInstance;have hzw0:w.heap.size≤zw:=(Aj.monoS (w0:=w) (Aj.of_born (z:=zw) 0)).out ⟨zw,0,none⟩ rfl;have hrz:HR wzw A (cellsOf P):=⟨HRR.out.later n9.out⟩;have hqz:HR wzw C (cellsOf D):=⟨HQQ.out.later n9.out⟩;refine Ah ((only zw)) (by kernel_rfl) (fun wd _ _=> ?_);refine YS 0 ?_;refine YS 3 ?_;refine KW 4 ?_;refine Yh 1 fun K_ hK_=> ?_
 (refine BM 16 (AM _ _) ?_;intro zb wb _ _ _)
 refine Yn hK_ ?_;clear hK_ K_;refine Yg 2 fun K_ hK_=> ?_
 go_simp;refine(Ci (z:=zb) (vs:=[4]) rfl rfl (show 9*1≤1000000000 by decide)).mono ?_;rintro e w6 ⟨f6,caps6,T6,rfl,_,hL6,hT6⟩;have hzb:wzw.heap.size≤zb:=(Aj.monoS (w0:=wzw) (Aj.of_born (z:=zb) 0)).out ⟨zb,0,none⟩ rfl;refine Yz hK_ ?_;clear hK_ K_;refine Yg 5 fun K_ hK_=> ?_
 go_simp;refine(Mw nm v e0 (P:=P) (D:=D) HL.out HM.out (fun k hk=>BN.chg (HDI.out k hk) (n9.out.trans (Aa (w0:=wzw)).chg (fun _ _ h=>h)) (fun _ _ h=>h)) (by have h8:=HP16.out;have h9:=HL.out;omega) (by have h8:=HD16.out;have h9:=HM.out;omega)).mono ?_;rintro e w7 ⟨f7,caps7,T7,rfl,_,hL7,hT7⟩;refine Yz hK_ ?_;clear hK_ K_;refine Yh 6 fun K_ hK_=> ?_
 (refine BM 21 (BL _ _ _ _ _) ?_;intro zc wb _ _ _)
 refine Yn hK_ ?_;clear hK_ K_;refine Yg 7 fun K_ hK_=> ?_
 go_simp;refine(DY (z:=zc) (hL6.later (Aa (w0:=w6)).chg (fun _ _ h=>h)) (hL7.later (Aa (w0:=w7)).chg (fun _ _ h=>h))).mono ?_;rintro e w8 ⟨f8,caps8,T8,rfl,_,hL8,hT8⟩;have hzc:wzw.heap.size≤zc:=(Aj.monoS (w0:=wzw) (Aj.of_born (z:=zc) 0)).out ⟨zc,0,none⟩ rfl;obtain⟨f9,caps9,he9,hent,hrun⟩:=hL8.run;injection he9 with e1 _ e2
 injection e1 with e1
 subst e1 e2;have hw8:Cz w8 zw none []:=⟨⟨0,0,rfl,(inferInstance:HB w8 zw 195 #[.slice none 0 0]).out,Cm.nil _ _ _⟩,fun ad h=>by cases h⟩;have hT: ∀x,Wf zw none x→¬T8 x:=by
  rintro x (rfl|⟨ad,e,_⟩) hx
  ·rcases hT8 _ hx with h|h|h|h
   ·have:=Nat.le_trans (Aa (w0:=wzw)).chg.size h;omega
   ·omega
   ·rcases hT6 _ h with h|h
    ·have:=Nat.le_trans (Aa (w0:=wzw)).chg.size h;omega
    omega
   rcases hT7 _ h with h|⟨hne,ad,e,hk⟩|⟨hne,ad,e,hk⟩|⟨k,hk,hx⟩
   ·have:=Nat.le_trans (Aa (w0:=wzw)).chg.size h;omega
   ·have:=DC HRR.out hne e;omega
   ·have:=DC HQQ.out hne e;omega
   have:=(HDI.out k hk).low _ hx;omega
  cases e
 have hlen2:([]:List UInt8).length +(Ae [4]++Qf nm v e0 n m P D).length ≤1000000000:=by
  have a0:=Dr nm (by have:=CE HNM.out;omega);have a9:=CE HNM.out;have a8:=Az [(m:Int)];have a1:=Az [4];unfold Qf;have a2:=Az [v,e0];have a3:=Az [(n:Int)];have a4:=HP.out;have a5:=HP16.out;have a6:=HD.out;have a7:=HD16.out;simp only[List.length_append,List.length_cons,List.length_nil] at*;omega
 have HRUN:=Lib.hid (hrun w8 zw none [] (Au.refl _ _) hw8 hT hlen2);clear hrun;refine Yz hK_ ?_;clear hK_ K_;refine Yg 8 fun K_ hK_=> ?_
 go_simp;refine HRUN.out.mono ?_;rintro e w9 ⟨rfl,A9,hW9,hC9,hM9⟩;have st9:Ag (only zw) w8 w9:=⟨hC9.mono (fun x _ hx=>by
  rcases hx with h|⟨ad,e,_⟩
  ·exact h
  cases e)⟩
 refine Yz hK_ ?_;clear hK_ K_;refine Yd ?_;have n99:Nw w w9:=inferInstance;go_wp2_with fail;refine(JS zw A9 _ w9 hW9 (by rw[List.length_append];omega)).mono ?_;rintro e w10 ⟨A10,n10,c10,rfl,hn,ho,hc,hnew⟩;have st10:Ag Ab w9 w10:=⟨hc.out⟩;go_wp2_with fail
 go_ret2
 exact⟨Aa,A10,n10,c10,rfl,by have h9:=hn.out;simpa using h9,⟨ho.out⟩,⟨fun ad e=>Nat.le_trans n99.out.size (hnew.out ad e)⟩⟩
theorem Gm (nm:List UInt8) (v e0:Int) {A C:Option Addr} {n c m d:Nat} {P:List Ad} {D:List Ax} {w:World} [hr:HR w A (cellsOf P)] [hq:HR w C (cellsOf D)] (hl:P.length=n) (hm:D.length=m) (hD: ∀k∈D,FG w k) (hmax:n≤9223372036854775807) (hmaxm:m≤9223372036854775807):
    Calls Tryz.prog 31 #[.agg #[.string (Al nm), .int .i64 v, .int .i64 e0, .slice A n c, .slice C m d]] w (AR (DO nm v e0 P D) (Ae [4]++Qf nm v e0 n m P D) w):=by
 unfold AR;rcases hb:DO nm v e0 P D with _|_
 all_goals
  go_enter Tryz.func31,Tryz.ntmps31;go_wp2_with (first|(refine Bv 1 ?_;intro zt wzt _ _ _)|(refine Cp ?_));refine(Sx nm v e0 (P:=P) (D:=D) hl hm (fun k hk=>FG.nw (w0:=w) (hD k hk)) hmax hmaxm).mono ?_;rintro e w5 ⟨_,h5⟩;rw[hb] at h5
 ·obtain rfl:e=_:=h5;go_wp2_with fail
  go_ret2
  exact⟨Aa,rfl⟩
 obtain⟨A1,n1,c1,rfl,hn,hO,hA⟩:=h5;have HN:=Lib.hid hn;clear hn;go_wp2_with fail
 go_ret2
 exact⟨Aa,A1,n1,c1,rfl,by have h9:=HN.out;simpa using h9,hO,Aj.monoS hA⟩
end Go.Proofs.YtjjhceeookpieaaGreat
end
section
open Go Go.RowKit
namespace Go.Proofs.YtjjhceeookpieaaGreat
def Et (nm:List UInt8) (v e0:Int) (P:List Ad) (M:List Pv):List UInt8:=Ae [4]++(Ap nm++(Ae [v,e0]++((Ae [(P.length:Int)]++Im P)++(Ae [(M.length:Int)]++M.flatMap MA))))
theorem Aa3 (nm:List UInt8) (v e0:Int) {n m:Nat} {P:List Ad} {D:List Ax} (hl:P.length=n) (hm:D.length=m):Ae [4]++Qf nm v e0 n m P D=Et nm v e0 P (D.map Ax.m):=by
 unfold Qf Et JH;rw[List.length_map,hl,hm,List.flatMap_map];rfl
theorem XY {nm:List UInt8} {v e0:Int} {P:List Ad} {M:List Pv} (h:Gh nm v e0 P M=true):nm.length≤12∧(1≤v∧v≤1073741824)∧(0≤e0∧e0≤1073741824)∧P.length≤16∧(∀t∈P,DX t=true)∧M.length≤16∧(∀x∈M,UH x=true):=by
 unfold Gh at h;rw[Bool.and_eq_true,Bool.and_eq_true,Bool.and_eq_true,Bool.and_eq_true,Bool.and_eq_true,Bool.and_eq_true,Bool.and_eq_true,Bool.and_eq_true,decide_eq_true_eq,decide_eq_true_eq] at h;exact⟨CE h.1.1.1.1.1.1.1.1,JQ h.1.1.1.1.1.1.1.2,Lq h.1.1.1.1.1.1.2,h.1.1.1.1.1.2,List.all_eq_true.1 h.1.1.1.1.2,h.1.1.2,List.all_eq_true.1 h.1.2⟩
theorem Lr {k:Nat} (h:k≤4611686018427387904) (r:List UInt8):AO k (Ae [(k:Int)]++r)=⟨r,false⟩:=by
 have hn:=Ed (v:=(k:Int)) (by omega) (by omega) r;unfold AO;rw[hn,Int.toNat_natCast,if_pos rfl]
theorem NC {v e0:Int} (hv:0≤v∧v≤1073741824) (he:0≤e0∧e0≤1073741824) (r:List UInt8):(⟨Ae [v,e0]++r,false⟩:RS).num.1 =v.toNat∧((⟨Ae [v,e0]++r,false⟩:RS).at 1).num.1 =e0.toNat∧(⟨Ae [v,e0]++r,false⟩:RS).at 2=⟨r,false⟩:=by
 have e:Ae [v,e0]++r=Ae [v]++(Ae [e0]++r):=by
  rw[show[v,e0]=[v]++[e0] from rfl,Cw,List.append_assoc]
 have h1:=Ed (v:=v) hv.1 (by omega) (Ae [e0]++r);have h2:=Ed (v:=e0) he.1 (by omega) r;have a1:(⟨Ae [v,e0]++r,false⟩:RS).at 1=⟨Ae [e0]++r,false⟩:=by
  show(⟨Ae [v,e0]++r,false⟩:RS).num.2 =_;rw[e,h1]
 refine⟨by rw[e,h1],by rw[a1,h2], ?_⟩;show((⟨Ae [v,e0]++r,false⟩:RS).at 1).num.2 =_;rw[a1,h2]
theorem WU {nm:List UInt8} {v e0:Int} {P:List Ad} {M:List Pv} (h:Gh nm v e0 P M=true) (r:List UInt8):KB (Et nm v e0 P M++r)=nm∧(JI (Et nm v e0 P M++r):Int)=v∧(UI (Et nm v e0 P M++r):Int)=e0∧Zo (Et nm v e0 P M++r)=P∧Zp (Et nm v e0 P M++r)=M∧Agr (Et nm v e0 P M++r)=⟨r,false⟩:=by
 obtain⟨h1,⟨h2,h3⟩,⟨h4,h5⟩,h6,h7,h8,h9⟩:=XY h;have e:Et nm v e0 P M++r=Ae [((4:Nat):Int)]++(Ap nm++(Ae [v,e0]++(Ae [(P.length:Int)]++(P.flatMap NL++(Ae [(M.length:Int)]++(M.flatMap MA++r)))))):=by simp[Et,Im]
 obtain⟨l1,l2⟩:=Ry (tk:=Dt) (ef:=NL) 16 P h6 (by omega) (fun x hx r=>Ag0 (h7 x hx) r) (Ae [(M.length:Int)]++(M.flatMap MA++r));obtain⟨m1,m2⟩:=Ry (tk:=Mz) (ef:=MA) 16 M h8 (by omega) (fun x hx r=>Ag1 (h9 x hx) r) r;have hk:=Lr (k:=4) (by decide) (Ap nm++(Ae [v,e0]++(Ae [(P.length:Int)]++(P.flatMap NL++(Ae [(M.length:Int)]++(M.flatMap MA++r))))));have hr:=Iz nm (Ae [v,e0]++(Ae [(P.length:Int)]++(P.flatMap NL++(Ae [(M.length:Int)]++(M.flatMap MA++r))))) (by omega);obtain⟨a1,a2,a3⟩:=NC (v:=v) (e0:=e0) ⟨by omega,h3⟩ ⟨h4,h5⟩ (Ae [(P.length:Int)]++(P.flatMap NL++(Ae [(M.length:Int)]++(M.flatMap MA++r))));have hs:MB (AO 4 (Et nm v e0 P M++r))=⟨Ae [(P.length:Int)]++(P.flatMap NL++(Ae [(M.length:Int)]++(M.flatMap MA++r))),false⟩:=by
  unfold MB;rw[e,hk,hr];exact a3
 have h1r:SB (Et nm v e0 P M++r)=⟨Ae [(M.length:Int)]++(M.flatMap MA++r),false⟩:=by
  unfold SB;rw[hs,l2]
 refine⟨?_, ?_, ?_, ?_, ?_, ?_⟩
 ·unfold KB;rw[e,hk,hr]
 ·unfold JI;rw[e,hk,hr];show(((⟨_,false⟩:RS).num.1 :Nat):Int)=v;rw[a1];omega
 ·unfold UI;rw[e,hk,hr];show((((⟨_,false⟩:RS).at 1).num.1 :Nat):Int)=e0;rw[a2];omega
 ·unfold Zo;rw[hs,l1]
 ·unfold Zp;rw[h1r,m1]
 unfold Agr;rw[h1r,m2]
theorem Aa4 {b:List UInt8} (h:Di b=true):Gh (KB b) (JI b) (UI b) (Zo b) (Zp b)=true∧b=Et (KB b) (JI b) (UI b) (Zo b) (Zp b):=by
 unfold Di at h;rw[Bool.and_eq_true] at h;refine⟨h.2, ?_⟩;obtain⟨h1,h2⟩:=DZ h.1;obtain⟨a1,a2,_⟩:=Sy.lst_back (s:=SB b) h1;have h3:(Fs Mz 16 (SB b)).b =[]:=h2;rw[h3,List.append_nil] at a2;obtain⟨b1,b2,_⟩:=Ka.lst_back (s:=MB (AO 4 b)) a1;have hP:Zo b=GW Dt 16 (MB (AO 4 b)):=rfl;have hD:Zp b=GW Mz 16 (SB b):=rfl;have hR:Fs Dt 16 (MB (AO 4 b))=SB b:=rfl;rw[←hD] at a2;rw[←hP,hR,a2] at b2;have hN:KB b=(AO 4 b).row.1 :=rfl;have hV:JI b=(AO 4 b).row.2.num.1 :=rfl;have hX:UI b=((AO 4 b).row.2.at 1).num.1 :=rfl;have hs:MB (AO 4 b)=(AO 4 b).row.2.at 2:=rfl;rw[hs] at b1 b2;rw[hN,hV,hX];generalize Zo b=P at*;generalize Zp b=M at*;generalize hS:AO 4 b=S at*;obtain⟨c1,c2,c3⟩:=Cs (s:=S.row.2.at 1) b1;obtain⟨d1,d2,d3⟩:=Cs (s:=S.row.2) c1;obtain⟨f1,f2⟩:=FZ (s:=S) d1;have hb:=Kc (k:=4) (b:=b) (by rw[hS];exact f1);rw[hS] at hb;have e3:Ae [(S.row.2.num.1:Int),((S.row.2.at 1).num.1 :Int)]=enc S.row.2.num.1++enc (S.row.2.at 1).num.1 :=by
  rw[show[(S.row.2.num.1:Int),((S.row.2.at 1).num.1 :Int)]=[(S.row.2.num.1:Int)]++[((S.row.2.at 1).num.1 :Int)] from rfl,Cw,Jg d3,Jg c3]
 rw[Et,e3,show Ae [4]=enc 4 from Jg (n:=4) (by decide),hb]
 congr 1
 rw[f2]
 congr 1
 rw[d2,List.append_assoc]
 congr 1
 show(S.row.2.at 1).b =_;rw[c2]
 congr 1
 show(S.row.2.at 2).b =_;rw[b2];simp[Im]
theorem WV {nm:List UInt8} {v e0:Int} {P:List Ad} {M:List Pv} (h:Gh nm v e0 P M=true) (r:List UInt8):Di (Et nm v e0 P M++r)=decide (r=[]):=by
 obtain⟨h1,h2,h3,h4,h5,h6⟩:=WU h r;unfold Di;rw[h1,h2,h3,h4,h5,h6,h,Bool.and_true];rfl
theorem Ag2 {b:List UInt8}:Di b=true→tgM b=(KB b,(JI b:Int),(UI b:Int),Zo b,Zp b,0):=fun h=>by rw[tgM,if_pos h]
theorem Ag3 {b:List UInt8}:Di b=false→tgM b=([],0,0,[],[],2):=fun h=>by rw[tgM,if_neg (by rw[h];decide)]
end Go.Proofs.YtjjhceeookpieaaGreat
end
section
open Go Go.RowKit
namespace Go.Proofs.YtjjhceeookpieaaGreat
section
variable {α:Type} (R:RS→α→RS→Prop)
def Hn (s:RS):Nat→List α→RS→Prop
 |0,l,s'=>l=[]∧s'=s
 |k+1,l,s'=>∃l' t x,Hn s k l' t∧R t x s'∧l=l'++[x]
def XZ (most:Nat) (s:RS) (l:List α) (s':RS):Prop:=∃j,j≤most+1∧j≤s.num.1∧(j=s.num.1∨j=most+1∨s'.e=true)∧Hn R s.num.2 j l s'
end
section
variable {α:Type} {R:RS→α→RS→Prop} {tk:RS→α×RS} {ef:α→List UInt8}
theorem Hn.len {s:RS}: ∀{k:Nat} {l:List α} {s':RS},Hn R s k l s'→l.length=k
 |0,l,s',h=>by rw[h.1];rfl
 |k+1,l,s',h=>by
  obtain⟨l',t,x,h1,_,rfl⟩:=h;rw[List.length_append,Hn.len h1];rfl
theorem Hn.le (hR: ∀t x s',R t x s'→s'.b.length≤t.b.length) {s:RS}: ∀{k:Nat} {l:List α} {s':RS},Hn R s k l s'→s'.b.length≤s.b.length
 |0,l,s',h=>by rw[h.2];exact Nat.le_refl _
 |k+1,l,s',h=>by
  obtain⟨l',t,x,h1,h2,rfl⟩:=h;exact Nat.le_trans (hR _ _ _ h2) (Hn.le hR h1)
theorem Hn.prog (ht:FB tk ef) (hR: ∀t x s',R t x s'→(tk t).2.e =false→x=(tk t).1∧s'=(tk t).2) {s:RS}: ∀{k:Nat} {l:List α} {s':RS},Hn R s k l s'→(Hi tk s k).e =false→l=LQ tk s k∧s'=Hi tk s k
 |0,l,s',h,_=>h
 |k+1,l,s',h,he=>by
  obtain⟨l',t,x,h1,h2,rfl⟩:=h;obtain⟨rfl,rfl⟩:=Hn.prog ht hR h1 (ht.back _ he).1;obtain⟨rfl,rfl⟩:=hR _ _ _ h2 he;exact⟨rfl,rfl⟩
theorem XZ.prog (ht:FB tk ef) (hR: ∀t x s',R t x s'→(tk t).2.e =false→x=(tk t).1∧s'=(tk t).2) {most:Nat} {s s':RS} {l:List α} (g:XZ R most s l s') (he:(Fs tk most s).e =false):l=GW tk most s∧s'=Fs tk most s:=by
 obtain⟨j,h5,hn,hj,hr⟩:=g;have h4: ¬most<s.num.1:=fun h4=>by
  rw[Fs,if_pos h4] at he;cases he
 rw[Fs,if_neg h4] at he;have hje:=ht.tkS_mono _ _ _ he hn;obtain⟨rfl,rfl⟩:=Hn.prog ht hR hr hje;have e:j=s.num.1:=by
  rcases hj with h'|h'|h'
  ·exact h'
  ·omega
  rw[hje] at h';cases h'
 rw[GW,Fs,if_neg h4,if_neg h4,←e];exact⟨rfl,rfl⟩
end
def Jb (s:RS) (x:Pv) (s':RS):Prop:=∃l need t,Ny s.row.2 l need t∧x=(s.row.1,(l,(need:Int)),t.row.1,decide (t.row.2.num.1=1))∧s'=t.row.2.num.2
theorem Ny.leF {s s':RS} {l:List Ak} {need:Nat} (h:Ny s l need s'):s'.b.length≤s.b.length:=by
 obtain⟨j,_,_,_,_,_,rfl⟩:=h;exact Nat.le_trans (RS.num_le _) (Nat.le_trans (QR _ _) (RS.num_le s))
theorem Jb.le (s:RS) (x:Pv) (s':RS) (h:Jb s x s'):s'.b.length≤s.b.length:=by
 obtain⟨l,need,t,h1,_,rfl⟩:=h;exact Nat.le_trans (RS.num_le _) (Nat.le_trans (RS.row_le _) (Nat.le_trans h1.leF (RS.row_le _)))
theorem Ahj {s:RS} (h:(WA s).e =false):WA s=s.num.2:=by
 unfold WA at*;split
 ·rename_i h1
  rw[if_pos h1] at h;cases h
 rfl
theorem Jb.prog (s:RS) (x:Pv) (s':RS) (h:Jb s x s') (he:(Mz s).2.e =false):x=(Mz s).1∧s'=(Mz s).2:=by
 obtain⟨l,need,t,h1,rfl,rfl⟩:=h;have he':(WA (kR s.row.2).row.2).e =false:=he;have d1:=(Xt (s:=(kR s.row.2).row.2) he').1;have c1:=(FZ (s:=kR s.row.2) d1).1;obtain⟨rfl,rfl,rfl⟩:=h1.prog c1;refine⟨rfl, ?_⟩;show _=WA (kR s.row.2).row.2;rw[Ahj he']
theorem Adl {b:List UInt8} {P:List Ad} {M:List Pv} {t s':RS} (h1:MC Dt 16 (MB (AO 4 b)) P t) (h2:XZ Jb 16 t M s'):
    (Cv s'&&Gh (KB b) (JI b) (UI b) P M&&decide (b=Et (KB b) (JI b) (UI b) P M))=Di b∧(Di b=true→P=Zo b∧M=Zp b):=by
 by_cases hk:Di b=true
 ·have h0:=hk;unfold Di at h0;rw[Bool.and_eq_true] at h0;have he:=(DZ h0.1).1;have he1:=(Sy.lst_back (s:=SB b) he).1;obtain⟨rfl,rfl⟩:=h1.prog Ka he1;obtain⟨rfl,rfl⟩:=h2.prog Sy Jb.prog he;refine⟨?_,fun _=>⟨rfl,rfl⟩⟩;rw[hk];have e1:(Cv (Fs Mz 16 (Fs Dt 16 (MB (AO 4 b))))&&Gh (KB b) (JI b) (UI b) (GW Dt 16 (MB (AO 4 b))) (GW Mz 16 (Fs Dt 16 (MB (AO 4 b)))))=true:=by rw[Bool.and_eq_true];exact h0
  rw[e1];exact decide_eq_true (Aa4 hk).2
 refine⟨?_,fun h=>absurd h hk⟩;rw[Bool.not_eq_true] at hk;rw[hk,←Bool.not_eq_true];intro h3;rw[Bool.and_eq_true,Bool.and_eq_true] at h3;have h4:=WV h3.1.2 [];rw[List.append_nil,←of_decide_eq_true h3.2,hk] at h4;cases h4
end Go.Proofs.YtjjhceeookpieaaGreat
end
section
set_option maxRecDepth 100000
set_option maxHeartbeats 3200000
open Go Go.RowKit
namespace Go.Proofs.YtjjhceeookpieaaGreat
theorem Adt (l:List UInt8) (w:World):(Instr.build 44 #[(0, .string (Al l))]).run Tryz.prog w= .ok (.agg (My (.string (Al l)) (.int .i64 0) Aq (.string ⟨#[]⟩) (.int .i64 0) (.string ⟨#[]⟩)).toArray) w:=by kernel_rfl
theorem Ahk (a b:Value) (h:Ak) (x y z v:Value):(My a b h x y z).toArray.setIfInBounds 1 v=(My a v h x y z).toArray :=by
 rw[sA];rfl
theorem Hb {g d:Nat} {s:RS} {w:World} (hw:Bn w g d s) (hl:s.b.length≤140737488351232):
    Calls Tryz.prog 151 #[.pointer (some ⟨g,0,none⟩)] w fun e w'=>e= .returned (.agg (Af.enc (Dt s).1).toArray)∧Ag (only g) w w'∧Hid (Bn w' g d (Dt s).2):=by
 have HW0:=Lib.hid hw;have HL:=Lib.hid hl;have hgl:=hw.lt;have hdl:=hw.dlt;have hpl:=Ka.le s;obtain⟨s1,hs1⟩: ∃x,x=s.row.2:=⟨_,rfl⟩;obtain⟨s2,hs2⟩: ∃x,x=s1.num.2:=⟨_,rfl⟩;obtain⟨s3,hs3⟩: ∃x,x=s2.hnx:=⟨_,rfl⟩;obtain⟨s4,hs4⟩: ∃x,x=s3.row.2:=⟨_,rfl⟩;obtain⟨s5,hs5⟩: ∃x,x=s4.num.2:=⟨_,rfl⟩;have e1:s1.b.length≤s.b.length:=by rw[hs1];exact RS.row_le _
 have e2:s2.b.length≤s1.b.length:=by rw[hs2];exact RS.num_le _
 have e3:s3.b.length≤s2.b.length:=by rw[hs3];exact RS.hnx_le _
 have e4:s4.b.length≤s3.b.length:=by rw[hs4];exact RS.row_le _
 have e5:s5.b.length≤s4.b.length:=by rw[hs5];exact RS.num_le _
 obtain⟨p,hp⟩: ∃p,p=(Dt s).1:=⟨_,rfl⟩;have HE:Hid ((Dt s).2=s5.row.2):=Lib.hid (by rw[hs5,hs4,hs3,hs2,hs1];rfl);have HP0:Hid (s.row.1=p.l):=Lib.hid (by rw[hp];rfl);have HP1:Hid (((s1.num.1:Nat):Int)=p.size):=Lib.hid (by rw[hp,hs1];rfl);have HP2:Hid (s2.hsh=p.sum):=Lib.hid (by rw[hp,hs2,hs1];rfl);have HP3:Hid (s3.row.1=p.hw):=Lib.hid (by rw[hp,hs3,hs2,hs1];rfl);have HP4:Hid (((s4.num.1:Nat):Int)=p.ctr):=Lib.hid (by rw[hp,hs4,hs3,hs2,hs1];rfl);have HP5:Hid (s5.row.1=p.ecu):=Lib.hid (by rw[hp,hs5,hs4,hs3,hs2,hs1];rfl);have HS1:=Lib.hid hs1;have HS2:=Lib.hid hs2;have HS3:Hid (s3=(s2.raw 32).2):=Lib.hid hs3;have HS4:=Lib.hid hs4;have HS5:=Lib.hid hs5;have kbU:=Adt p.l;have hsz:(Af.enc p).toArray.size =37:=DB p;have hon:=AY p;have hz0:BZ.size=37:=by kernel_rfl
 rw[←hp];clear hw hl hp hs1 hs2 hs3 hs4 hs5;go_enter Tryz.func151,Tryz.ntmps151;go_wp2_with (first|(refine BB 2 ?_;intro zo wzo _ _ _));have hzo:w.heap.size≤zo:=Nat.le_of_eq (inferInstance:AW w zo).eq.symm;have hzol:zo<wzo.heap.size:=(inferInstance:HB wzo zo 44 BZ).out.lt;have ozo:As (only g) zo:=⟨fun e=>by have e':zo=g:=e;omega⟩;refine(CM (HW0.out.chg (Aa (w0:=w)).chg (fun h=>h) (fun h=>h)) HL.out).mono ?_;rw[HP0.out,←HS1.out];rintro e w2 ⟨rfl,st2,h2⟩;have H2:=Lib.hid h2.out;clear h2;have hs2:wzo.heap.size≤w2.heap.size:=st2.chg.size;have hwz:w.heap.size≤wzo.heap.size:=(inferInstance:Ay w wzo).out;go_wp2_with (first|(refine Ji (kbU _) ?_)|(refine BB 3 ?_;intro zt wzt _ _ _)|(refine Bt ?_;intro ws _ _));have hzt2:w2.heap.size≤zt:=Nat.le_of_eq (inferInstance:AW w2 zt).eq.symm;have otr:As (only g) zt:=⟨fun e=>by have e':zt=g:=e;omega⟩;have oto:As (only zt) zo:=⟨fun e=>by have e':zo=zt:=e;omega⟩;have far: ∀(x:RS) (w1 w2:World),x.b.length≤s.b.length→Ag (only zt) w1 w2→Bn w1 g d x→Bn w2 g d x:=fun x w1 w2 hx st h=>h.far st.chg (m:=w.heap.size) (fun y hy=>by have hy':y=zt:=hy;omega) hgl (fun h9=>hdl (Fx hx h9))
 have at_:Cn w (only zt):=⟨fun k h=>by have h':k=zt:=h;omega⟩;have ht3:HB ws zt 44 (My (.string (Al p.l)) (.int .i64 0) Aq (.string ⟨#[]⟩) (.int .i64 0) (.string ⟨#[]⟩)).toArray :=inferInstance;have ho3:HB ws zo 44 BZ:=inferInstance;have H3:=Lib.hid (far s1 wzt ws e1 inferInstance (H2.out.chg (Aa (w0:=w2) (w:=wzt)).chg (fun h=>h) (fun h=>h)));have st3:Ag (only g) w ws:=FA;clear H2;generalize ws=w3 at*;refine(AV g d s1 _ H3.out (by have:=HL.out;omega)).mono ?_;rw[HP1.out,←HS2.out];rintro e w4 ⟨rfl,h4,c4⟩;have st4:Ag (only g) w3 w4:=⟨c4.out⟩;have ht4:HB w4 zt 44 (My (.string (Al p.l)) (.int .i64 0) Aq (.string ⟨#[]⟩) (.int .i64 0) (.string ⟨#[]⟩)).toArray :=inferInstance;have ho4:HB w4 zo 44 BZ:=inferInstance;clear c4;go_wp2_with (first|((with_reducible apply AU);exact rfl;exact rfl;exact ht4;exact rfl;(rw[LP];decide);intro wk _ htr;have ht5:HB wk zt 44 (My (.string (Al p.l)) (.int .i64 p.size) Aq (.string ⟨#[]⟩) (.int .i64 0) (.string ⟨#[]⟩)).toArray :=HB.row_eqR htr (Ahk _ _ _ _ _ _ _);clear htr));have ho5:HB wk zo 44 BZ:=inferInstance;have H5:=Lib.hid (far s2 w4 wk (by omega) inferInstance h4.out);have st5:Ag (only g) w wk:=FA;clear h4;generalize wk=w5 at*;refine(Hk H5.out (by have:=HL.out;omega)).mono ?_;rw[HP2.out,←HS3.out];rintro e w6 ⟨rfl,st6,h6⟩;have ht6:HB w6 zt 44 (My (.string (Al p.l)) (.int .i64 p.size) Aq (.string ⟨#[]⟩) (.int .i64 0) (.string ⟨#[]⟩)).toArray :=inferInstance;have ho6:HB w6 zo 44 BZ:=inferInstance;have hsz6:(My (.string (Al p.l)) (.int .i64 p.size) Aq (.string ⟨#[]⟩) (.int .i64 0) (.string ⟨#[]⟩)).toArray.size =37:=LP _ _ _ _ _ _;have hput:(My (.string (Al p.l)) (.int .i64 p.size) Aq (.string ⟨#[]⟩) (.int .i64 0) (.string ⟨#[]⟩)).toArray.toList.take 2++(Aw p.sum.l).toList ++(My (.string (Al p.l)) (.int .i64 p.size) Aq (.string ⟨#[]⟩) (.int .i64 0) (.string ⟨#[]⟩)).toArray.toList.drop (2+32)=(My (.string (Al p.l)) (.int .i64 p.size) p.sum (.string ⟨#[]⟩) (.int .i64 0) (.string ⟨#[]⟩)).toArray.toList :=by
  show[Value.string (Al p.l), .int .i64 p.size]++(Aw p.sum.l).toList ++[.string ⟨#[]⟩, .int .i64 0, .string ⟨#[]⟩]=My (.string (Al p.l)) (.int .i64 p.size) p.sum (.string ⟨#[]⟩) (.int .i64 0) (.string ⟨#[]⟩);simp[My,Aw]
 have HPUT:=Lib.hid hput;clear hput;go_wp2_with (first|((with_reducible apply Ce);exact rfl;exact rfl;exact ht6;infer_instance;exact Ak.size _;(decide);(rw[hsz6];decide);exact Ek _;exact HPUT.out;intro wp _ ht7b));have ht7:HB wp zt 44 (My (.string (Al p.l)) (.int .i64 p.size) p.sum (.string ⟨#[]⟩) (.int .i64 0) (.string ⟨#[]⟩)).toArray :=ht7b;have ho7:HB wp zo 44 BZ:=inferInstance;have H7:=Lib.hid (far s3 w6 wp (by omega) inferInstance h6.out);have st7:Ag (only g) w wp:=FA;clear h6 ht7b;generalize wp=w7 at*;refine(CM H7.out (by have:=HL.out;omega)).mono ?_;rw[HP3.out,←HS4.out];rintro e w8 ⟨rfl,st8,h8⟩;have ht8:HB w8 zt 44 (My (.string (Al p.l)) (.int .i64 p.size) p.sum (.string ⟨#[]⟩) (.int .i64 0) (.string ⟨#[]⟩)).toArray :=inferInstance;have ho8:HB w8 zo 44 BZ:=inferInstance;go_wp2_with (first|((with_reducible apply AU);exact rfl;exact rfl;exact ht8;exact rfl;(rw[LP];decide);intro wk _ htr;have ht9:HB wk zt 44 (My (.string (Al p.l)) (.int .i64 p.size) p.sum (.string (Al p.hw)) (.int .i64 0) (.string ⟨#[]⟩)).toArray :=HB.row_eqR htr (Agn _ _ _ _ _ _ _);clear htr));have ho9:HB wk zo 44 BZ:=inferInstance;have H9:=Lib.hid (far s4 w8 wk (by omega) inferInstance h8.out);have st9:Ag (only g) w wk:=FA;clear h8;generalize wk=w9 at*;refine(AV g d s4 _ H9.out (by have:=HL.out;omega)).mono ?_;rw[HP4.out,←HS5.out];rintro e w10 ⟨rfl,h10,c10⟩;have st10:Ag (only g) w9 w10:=⟨c10.out⟩;have ht10:HB w10 zt 44 (My (.string (Al p.l)) (.int .i64 p.size) p.sum (.string (Al p.hw)) (.int .i64 0) (.string ⟨#[]⟩)).toArray :=inferInstance;have ho10:HB w10 zo 44 BZ:=inferInstance;clear c10;go_wp2_with (first|((with_reducible apply AU);exact rfl;exact rfl;exact ht10;exact rfl;(rw[LP];decide);intro wk _ htr;have ht11:HB wk zt 44 (My (.string (Al p.l)) (.int .i64 p.size) p.sum (.string (Al p.hw)) (.int .i64 p.ctr) (.string ⟨#[]⟩)).toArray :=HB.row_eqR htr (Ago _ _ _ _ _ _ _);clear htr));have ho11:HB wk zo 44 BZ:=inferInstance;have H11:=Lib.hid (far s5 w10 wk (by omega) inferInstance h10.out);have st11:Ag (only g) w wk:=FA;clear h10;generalize wk=w11 at*;refine(CM H11.out (by have:=HL.out;omega)).mono ?_;rw[HP5.out,←HE.out];rintro e w12 ⟨rfl,st12,h12⟩;have ht12:HB w12 zt 44 (My (.string (Al p.l)) (.int .i64 p.size) p.sum (.string (Al p.hw)) (.int .i64 p.ctr) (.string ⟨#[]⟩)).toArray :=inferInstance;have ho12:HB w12 zo 44 BZ:=inferInstance;have hE:Hid ((Dt s).2.b ≠[]→d<w.heap.size):=Lib.hid (fun h=>hdl (by
  intro h0;rw[h0] at hpl;exact h (List.eq_nil_of_length_eq_zero (by simpa using hpl))))
 go_wp2_with (first|((with_reducible apply AU);exact rfl;exact rfl;exact ht12;exact rfl;(rw[LP];decide);intro wk _ htr;have ht13:HB wk zt 44 (Af.enc p).toArray :=HB.row_eqR htr (Agp _ _ _ _ _ _ _);clear htr)|((with_reducible apply BP);exact rfl;exact ht13;infer_instance;exact hsz)|(refine Bt ?_;intro ws _ _));have hcF:Au (GE zt zo) w12 ws:=(inferInstance:Ch (GE zt zo) w12 ws).out;refine Bo rfl rfl (n:=37) hsz rfl ⟨rfl,FA, ?_⟩;exact Lib.hid (h12.out.far hcF (m:=w.heap.size) (fun x hx=>by rcases hx with h|h<;>omega) hgl hE.out)
end Go.Proofs.YtjjhceeookpieaaGreat
end
section
set_option maxRecDepth 100000
set_option maxHeartbeats 3200000
open Go Go.RowKit
namespace Go.Proofs.YtjjhceeookpieaaGreat
theorem Adu (l:List UInt8) (w:World):(Instr.build 213 #[(0, .string (Al l))]).run Tryz.prog w= .ok (.agg #[.string (Al l), .slice none 0 0, .int .i64 0, .string ⟨#[]⟩, .bool false]) w:=by kernel_rfl
def dlW (l:List UInt8) (k:KR) (pre:List UInt8) (b:Bool):Array Value:=#[.string (Al l), .slice k.A k.n k.c, .int .i64 k.need, .string (Al pre), .bool b]
theorem IV {g d:Nat} {s:RS} {w:World} (hw:Bn w g d s) (hl:s.b.length≤140737488351232):
    Calls Tryz.prog 152 #[.pointer (some ⟨g,0,none⟩)] w fun e w'=>∃(x:Ax) (s':RS),e= .returned (.agg (Af.enc x).toArray)∧Ag (only g) w w'∧Hid (Bn w' g d s')∧Hid (Jb s x.m s')∧Hid (Vh w' x∧Aj w x.k.A):=by
 have HW0:=Lib.hid hw;have HL:=Lib.hid hl;have hgl:=hw.lt;have hdl:=hw.dlt;obtain⟨s1,hs1⟩: ∃x,x=s.row.2:=⟨_,rfl⟩;have e1:s1.b.length≤s.b.length:=by rw[hs1];exact RS.row_le _
 obtain⟨l,hl0⟩: ∃x,x=s.row.1:=⟨_,rfl⟩;have HP0:=Lib.hid hl0;have HS1:=Lib.hid hs1;have kbU:=Adu l;have hz0:GN.size=5:=rfl;clear hw hl hs1 hl0;go_enter Tryz.func152,Tryz.ntmps152;go_wp2_with (first|(refine BB 2 ?_;intro zo wzo _ _ _));have hzo:w.heap.size≤zo:=Nat.le_of_eq (inferInstance:AW w zo).eq.symm;have hzol:zo<wzo.heap.size:=(inferInstance:HB wzo zo 213 GN).out.lt;have ozo:As (only g) zo:=⟨fun e=>by have e':zo=g:=e;omega⟩;refine(CM (HW0.out.chg (Aa (w0:=w)).chg (fun h=>h) (fun h=>h)) HL.out).mono ?_;rw[←HP0.out,←HS1.out];rintro e w2 ⟨rfl,st2,h2⟩;have H2:=Lib.hid h2.out;clear h2;have hs2:wzo.heap.size≤w2.heap.size:=st2.chg.size;have hwz:w.heap.size≤wzo.heap.size:=(inferInstance:Ay w wzo).out;go_wp2_with (first|(refine Ji (kbU _) ?_)|(refine BB 3 ?_;intro zt wzt _ _ _)|(refine Bt ?_;intro ws _ _));have hzt2:w2.heap.size≤zt:=Nat.le_of_eq (inferInstance:AW w2 zt).eq.symm;have otr:As (only g) zt:=⟨fun e=>by have e':zt=g:=e;omega⟩;have oto:As (only zt) zo:=⟨fun e=>by have e':zo=zt:=e;omega⟩;have far: ∀(x:RS) (w1 w2:World),x.b.length≤s.b.length→Ag (only zt) w1 w2→Bn w1 g d x→Bn w2 g d x:=fun x w1 w2 hx st h=>h.far st.chg (m:=w.heap.size) (fun y hy=>by have hy':y=zt:=hy;omega) hgl (fun h9=>hdl (Fx hx h9))
 have at_:Cn w (only zt):=⟨fun k h=>by have h':k=zt:=h;omega⟩;have ht3:HB ws zt 213 #[.string (Al l), .slice none 0 0, .int .i64 0, .string ⟨#[]⟩, .bool false]:=inferInstance;have ho3:HB ws zo 213 GN:=inferInstance;have H3:=Lib.hid (far s1 wzt ws e1 inferInstance (H2.out.chg (Aa (w0:=w2) (w:=wzt)).chg (fun h=>h) (fun h=>h)));have st3:Ag (only g) w ws:=FA;have hs3:w2.heap.size≤ws.heap.size:=(inferInstance:Ay w2 ws).out;have hztl3:zt<ws.heap.size:=ht3.out.lt;clear H2;generalize ws=w3 at*;refine(IX H3.out (by have:=HL.out;omega)).mono ?_;rintro e w4 ⟨k,need,s2,rfl,st4,h4,hq,hk⟩;have HK4:=Lib.hid hk.out.1;have hkA:=hk.out.2;have HQ:=hq;have e2:s2.b.length≤s1.b.length:=hq.out.1.le;have ht4:HB w4 zt 213 #[.string (Al l), .slice none 0 0, .int .i64 0, .string ⟨#[]⟩, .bool false]:=inferInstance;have ho4:HB w4 zo 213 GN:=inferInstance;have hlow: ∀x,Jw k.A k.l x→w3.heap.size≤x:=fun x ⟨_,ad,e,h⟩=>by
  have h9:=hkA.out ad e;omega
 have HLOW:=Lib.hid hlow;have hsk:(Af.enc k).toArray.size =2:=rfl;have hok:=AY k;clear hk hq hlow;go_wp2_with (first|((with_reducible apply Ce);exact rfl;exact rfl;exact ht4;infer_instance;exact hsk;(decide);exact(show 1+2≤5 by decide);exact hok;(exact(show _=(dlW l k [] false).toList from rfl));intro wp _ ht5b));have ht5:HB wp zt 213 (dlW l k [] false):=ht5b;have ho5:HB wp zo 213 GN:=inferInstance;have stz5:Ag (only zt) w4 wp:=inferInstance;have H5:=Lib.hid (far s2 w4 wp (by omega) stz5 h4.out);have st5:Ag (only g) w wp:=FA;have HK5:Hid (BN wp k):=Lib.hid (BN.chg HK4.out stz5.chg (fun x hx h=>by
  have h8:=HLOW.out x hx;have h':x=zt:=h;omega))
 clear h4 ht5b HK4;generalize wp=w5 at*;obtain⟨pre,hpre⟩: ∃x,x=s2.row.1:=⟨_,rfl⟩;obtain⟨s3,hs3'⟩: ∃x,x=s2.row.2:=⟨_,rfl⟩;have e3:s3.b.length≤s2.b.length:=by rw[hs3'];exact RS.row_le _
 have HP:=Lib.hid hpre;have HS3:=Lib.hid hs3';clear hpre hs3';refine(CM H5.out (by have:=HL.out;omega)).mono ?_;rw[←HP.out,←HS3.out];rintro e w6 ⟨rfl,st6,h6⟩;have ht6:HB w6 zt 213 (dlW l k [] false):=inferInstance;have ho6:HB w6 zo 213 GN:=inferInstance;have HK6:Hid (BN w6 k):=Lib.hid (BN.chg HK5.out st6.chg (fun x hx h=>by
  have h8:=HLOW.out x hx;have h':x=g:=h;have h9:=st3.chg.size;omega))
 go_wp2_with (first|((with_reducible apply AU);exact rfl;exact rfl;exact ht6;exact rfl;exact(show 3<5 by decide);intro wk _ htr;have ht7:HB wk zt 213 (dlW l k pre false):=HB.row_eqR htr rfl;clear htr));have ho7:HB wk zo 213 GN:=inferInstance;have stz7:Ag (only zt) w6 wk:=inferInstance;have H7:=Lib.hid (far s3 w6 wk (by omega) stz7 h6.out);have st7:Ag (only g) w wk:=FA;have HK7:Hid (BN wk k):=Lib.hid (BN.chg HK6.out stz7.chg (fun x hx h=>by
  have h8:=HLOW.out x hx;have h':x=zt:=h;omega))
 clear h6 HK6 HK5;generalize wk=w7 at*;obtain⟨N,hN⟩: ∃N,N=s3.num.1:=⟨_,rfl⟩;obtain⟨s4,hs4⟩: ∃x,x=s3.num.2:=⟨_,rfl⟩;have e4:s4.b.length≤s3.b.length:=by rw[hs4];exact RS.num_le _
 obtain⟨b,hb⟩: ∃b,b=decide (N=1):=⟨_,rfl⟩;have hx:Jb s (l,k.m,pre,b) s4:=⟨k.l,need,s2,by rw[←HS1.out];exact HQ.out.1,by
  rw[←HP0.out,←HP.out,←HS3.out,←hN,←hb,KR.m,HQ.out.2],by rw[hs4,HS3.out]⟩
 have HX:=Lib.hid hx;have HN:=Lib.hid hN;have HS4:=Lib.hid hs4;have hsx:(Af.enc (⟨l,k,pre,b⟩:Ax)).toArray.size =5:=rfl;have hox:=AY (⟨l,k,pre,b⟩:Ax);clear hx hN hs4;refine(AV g d s3 _ H7.out (by have:=HL.out;omega)).mono ?_;rw[←HN.out,←HS4.out];rintro e w8 ⟨rfl,h8,c8⟩;have st8:Ag (only g) w7 w8:=⟨c8.out⟩;have ht8:HB w8 zt 213 (dlW l k pre false):=inferInstance;have ho8:HB w8 zo 213 GN:=inferInstance;have hzs8:w3.heap.size≤w8.heap.size:=(inferInstance:Ay w3 w8).out;have HK8:Hid (BN w8 k):=Lib.hid (BN.chg HK7.out st8.chg (fun x hx h=>by
  have h8:=HLOW.out x hx;have h':x=g:=h;have h9:=st3.chg.size;omega))
 clear c8 HK7;by_cases h1:N=1
 focus
  obtain rfl:b=true:=by rw[hb,decide_eq_true h1]
  have hF:((N:Int)==1)=true:=by rw[beq_iff_eq];omega
  clear hb h1;go_wp2_with (first|((with_reducible apply AU);exact rfl;exact rfl;exact ht8;exact rfl;exact(show 4<5 by decide);intro wk _ htr;have ht9:HB wk zt 213 (Af.enc (⟨l,k,pre,true⟩:Ax)).toArray :=HB.row_eqR htr rfl;clear htr)|((with_reducible apply BP);exact rfl;exact ht9;infer_instance;exact hsx)|(refine Bt ?_;intro ws _ _))
 rotate_left
 focus
  obtain rfl:b=false:=by rw[hb,decide_eq_false h1]
  have hF:((N:Int)==1)=false:=by rw[beq_eq_false_iff_ne];omega
  clear hb h1;go_wp2_with (first|((with_reducible apply AU);exact rfl;exact rfl;exact ht8;exact rfl;exact(show 4<5 by decide);intro wk _ htr;have ht9:HB wk zt 213 (Af.enc (⟨l,k,pre,false⟩:Ax)).toArray :=HB.row_eqR htr rfl;clear htr)|((with_reducible apply BP);exact rfl;exact ht9;infer_instance;exact hsx)|(refine Bt ?_;intro ws _ _))
 rotate_left
 all_goals
  have hcF:Au (GE zt zo) w8 ws:=(inferInstance:Ch (GE zt zo) w8 ws).out;refine Bo rfl rfl (n:=5) hsx rfl ⟨_,s4,rfl,FA, ?_,HX, ?_⟩
  ·exact Lib.hid (h8.out.far hcF (m:=w.heap.size) (fun x hx=>by rcases hx with h|h<;>omega) hgl (fun h=>hdl (Fx (by omega) h)))
  exact Lib.hid ⟨BN.chg HK8.out hcF (fun x hx h=>by
  have h8:=HLOW.out x hx;rcases h with h|h
  ·omega
  ·omega),⟨fun ad e=>by
  have h8:=hkA.out ad e;have h9:=st3.chg.size;omega⟩⟩
end Go.Proofs.YtjjhceeookpieaaGreat
end
section
open Go Go.RowKit
namespace Go.Proofs.YtjjhceeookpieaaGreat
theorem Adm {v e0 s:Int} (hv:0≤v∧v≤1073741824) (he:0≤e0∧e0≤1073741824) (hs:0≤s∧s≤1073741824) (r:List UInt8):(⟨Ae [v,e0,s]++r,false⟩:RS).num.1 =v.toNat∧((⟨Ae [v,e0,s]++r,false⟩:RS).at 1).num.1 =e0.toNat∧((⟨Ae [v,e0,s]++r,false⟩:RS).at 2).num.1 =s.toNat∧(⟨Ae [v,e0,s]++r,false⟩:RS).at 3=⟨r,false⟩:=by
 have e:Ae [v,e0,s]++r=Ae [v,e0]++(Ae [s]++r):=by
  rw[show[v,e0,s]=[v,e0]++[s] from rfl,Cw,List.append_assoc]
 obtain⟨h1,h2,h3⟩:=NC hv he (Ae [s]++r);have h4:=Ed (v:=s) hs.1 (by omega) r;rw[←e] at h1 h2 h3;refine⟨h1,h2,by rw[h3,h4], ?_⟩;show((⟨Ae [v,e0,s]++r,false⟩:RS).at 2).num.2 =_;rw[h3,h4]
theorem Adn {v e s:Int} (h:IP v e s=true):(1≤v∧v≤1073741824)∧(0≤e∧e≤1073741824)∧(1≤s∧s≤1073741824):=by
 unfold IP at h;rw[Bool.and_eq_true,Bool.and_eq_true] at h;exact⟨JQ h.1.1,Lq h.1.2,JQ h.2⟩
theorem Ado {v e s:Int} (h:IP v e s=true) (hh:Ak):UW (IQ v e s hh)=true∧ZA (IQ v e s hh)=(BI v e s hh).toArray :=by
 obtain⟨h1,h2,h3⟩:=Adn h;have q:IQ v e s hh=Ae [((2:Nat):Int)]++(Ae [v,e,s]++(hh.l++[])):=by simp[IQ]
 have hk:AO 2 (IQ v e s hh)=⟨Ae [v,e,s]++(hh.l++[]),false⟩:=by rw[q,Lr (k:=2) (by decide)]
 obtain⟨a1,a2,a3,a4⟩:=Adm (v:=v) (e0:=e) (s:=s) ⟨by omega,h1.2⟩ h2 ⟨by omega,h3.2⟩ (hh.l++[]);have b1:(tV (AO 2 (IQ v e s hh)):Int)=v:=by rw[hk,tV,a1];omega
 have b2:(tE (AO 2 (IQ v e s hh)):Int)=e:=by rw[hk,tE,a2];omega
 have b3:(tS (AO 2 (IQ v e s hh)):Int)=s:=by rw[hk,tS,a3];omega
 have b4:tH (AO 2 (IQ v e s hh))=hh:=by rw[hk,tH,a4,Rx]
 have b5:tR (AO 2 (IQ v e s hh))=⟨[],false⟩:=by rw[hk,tR,a4,NB]
 constructor
 ·unfold UW;rw[b1,b2,b3,b5,h];rfl
 unfold ZA;rw[b1,b2,b3,b4]
theorem Ya {v e:Int} {P:List AE} (h:BO v e P=true):(1≤v∧v≤1073741824)∧(0≤e∧e≤1073741824)∧P.length≤16∧∀p∈P,Cd p=true:=by
 unfold BO at h;rw[Bool.and_eq_true,Bool.and_eq_true,Bool.and_eq_true,Bool.and_eq_true,decide_eq_true_eq] at h;exact⟨JQ h.1.1.1.1,Lq h.1.1.1.2,h.1.1.2,List.all_eq_true.1 h.1.2⟩
theorem Adp {p:AE} (h:Cd p=true) (r:List UInt8):Cx ⟨Kg p++r,false⟩=(p,⟨r,false⟩):=by
 unfold Cd at h;rw[Bool.and_eq_true] at h;have h1:=CE h.1;have h2:=JQ h.2;have e:Kg p++r=Ap p.l++(Ae [p.v]++r):=by simp[Kg]
 have s1:=Iz p.l (Ae [p.v]++r) (by omega);have s2:=Ed (v:=p.v) (by omega) (by omega) r;unfold Cx;rw[e,s1,s2];have hz:(p.v.toNat:Int)=p.v:=Int.toNat_of_nonneg (by omega);simp only[hz]
theorem Aa5 {v e:Int} {P:List AE} (h:BO v e P=true):snM (CY v e P)=(v,e,P,0):=by
 obtain⟨h1,h2,h3,h4⟩:=Ya h;have q:CY v e P=Ae [((3:Nat):Int)]++(Ae [v,e]++(Ae [(P.length:Int)]++(P.flatMap Kg++[]))):=by simp[CY,EJ]
 have hk:AO 3 (CY v e P)=⟨Ae [v,e]++(Ae [(P.length:Int)]++(P.flatMap Kg++[])),false⟩:=by rw[q,Lr (k:=3) (by decide)]
 obtain⟨a1,a2,a3⟩:=NC (v:=v) (e0:=e) ⟨by omega,h1.2⟩ h2 (Ae [(P.length:Int)]++(P.flatMap Kg++[]));obtain⟨l1,l2⟩:=Ry (tk:=Cx) (ef:=Kg) 16 P h3 (by omega) (fun x hx r=>Adp (h4 x hx) r) [];have b1:(Qc (CY v e P):Int)=v:=by rw[Qc,hk,a1];omega
 have b2:(Qd (CY v e P):Int)=e:=by rw[Qd,hk,a2];omega
 have b3:ZH (CY v e P)=⟨Ae [(P.length:Int)]++(P.flatMap Kg++[]),false⟩:=by rw[ZH,hk,a3]
 have b4:KY (CY v e P)=P:=by rw[KY,b3,l1]
 have b5:snR (CY v e P)=⟨[],false⟩:=by rw[snR,b3,l2]
 have ho:Gf (CY v e P)=true:=by
  unfold Gf;rw[b1,b2,b4,b5,h];rfl
 rw[snM,if_pos ho,b1,b2,b4]
theorem Tu (K:List (List Ak×Int)) (hK: ∀k∈K,Nf k.1 k.2=true) (r:List UInt8): ∀m,m≤K.length→Xj ⟨Fc K++r,false⟩ m=⟨Fc (K.drop m)++r,false⟩∧kK ⟨Fc K++r,false⟩ m=K.take m
 |0,_=>⟨rfl,rfl⟩
 |m+1,hm=>by
  obtain⟨h1,h2⟩:=Tu K hK r m (by omega);have hd:K.drop m=K[m]::K.drop (m+1):=List.drop_eq_getElem_cons (by omega);obtain⟨g1,g2,g3⟩:=VA (hK K[m] (List.getElem_mem _));have e:Fc (K.drop m)++r=Du K[m].1 K[m].2++(Fc (K.drop (m+1))++r):=by
   rw[hd,Fc,List.flatMap_cons,List.append_assoc];rfl
  obtain⟨k1,k2,k3⟩:=WS K[m].1 K[m].2 g1 (by omega) (by omega) (Fc (K.drop (m+1))++r);have hz:(K[m].2.toNat :Int)=K[m].2:=Int.toNat_of_nonneg (by omega);constructor
  ·rw[Xj,h1,e,k3]
  rw[kK,h2,h1,e,k1,k2,hz];exact List.take_append_getElem (by omega)
theorem Aa6 {v e:Int} {K:List (List Ak×Int)} (h:FW v e K=true) (h4:K.length=4):ZG (Dg v e K)=(v,e,K,0):=by
 have h0:=h;unfold FW at h0;rw[Bool.and_eq_true,Bool.and_eq_true] at h0;have h1:=JQ h0.1.1;have h2:=Lq h0.1.2;have h3:=List.all_eq_true.1 h0.2;have q:Dg v e K=Ae [((1:Nat):Int)]++(Ae [v,e]++(Fc K++[])):=by simp[Dg]
 have hk:AO 1 (Dg v e K)=⟨Ae [v,e]++(Fc K++[]),false⟩:=by rw[q,Lr (k:=1) (by decide)]
 obtain⟨a1,a2,a3⟩:=NC (v:=v) (e0:=e) ⟨by omega,h1.2⟩ h2 (Fc K++[]);obtain⟨l1,l2⟩:=Tu K (fun k hk=>h3 k hk) [] 4 (by omega);have b1:(Pt (Dg v e K):Int)=v:=by rw[Pt,hk,a1];omega
 have b2:(Zd (Dg v e K):Int)=e:=by rw[Zd,hk,a2];omega
 have b3:Nz (Dg v e K)=⟨Fc K++[],false⟩:=by rw[Nz,hk,a3]
 have b4:kK (Nz (Dg v e K)) 4=K:=by rw[b3,l2,List.take_of_length_le (by omega)]
 have b5:Xj (Nz (Dg v e K)) 4=⟨[],false⟩:=by
  rw[b3,l1,List.drop_of_length_le (by omega)];rfl
 have ho:EP (Dg v e K)=true:=by
  unfold EP;rw[b1,b2,b4,b5,h];rfl
 rw[ZG,if_pos ho,b1,b2,b4]
end Go.Proofs.YtjjhceeookpieaaGreat
end
