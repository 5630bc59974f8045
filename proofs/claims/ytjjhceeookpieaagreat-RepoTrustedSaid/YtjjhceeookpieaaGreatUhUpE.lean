/- UhUpE, UhUpF, UhUpH -/
import Derived.Test.YtjjhceeookpieaaGreatUhZ
import Derived.Test.YtjjhceeookpieaaGreatUhUpA
import Derived.Test.YtjjhceeookpieaaGreatUhFwL
import Derived.Test.YtjjhceeookpieaaGreatUhWuB
import Derived.Test.YtjjhceeookpieaaGreatUhDgX
section
set_option maxRecDepth 100000
set_option maxHeartbeats 6400000
open Go Go.RowKit
namespace Go.Proofs.YtjjhceeookpieaaGreat
instance Akp:Cl Tryz.prog 66 5:=⟨by kernel_rfl,_,Tryz.underlying66,rfl⟩
instance Akq:Eb Tryz.prog 66 GO:=⟨.agg GO,fun _=>by kernel_rfl,rfl⟩
def GP (w:World):Nat→Prop:=fun y=>w.heap.size≤y
theorem Ac7 (w0 w:World) [n:Ay w0 w]: ∀y,GP w y→GP w0 y:=fun _ h=>Nat.le_trans n.out h
def Aj9 (r3:List Ak×Int) (sp:List AE) (l:List Xx) (E:Em) (now:Int) (w:World):Ending→World→Prop:=fun e w'=>Ag Ab w w'∧∃(x:Ea) (err:Int),e= .returned (.tuple #[.agg (Af.enc x).toArray, .int .i64 err])∧Hid (err=FY r3 sp l E.m E.l now∧(err=0→x.k=UQ E.m))∧Hid (FH (GP w) w' x)
theorem Aez {w0 w:World} {nm:List UInt8} {v x:Int} {A C:Option Addr} {n c m q:Nat} {P:List Ad} {D:List Ax} (hs:w0.heap.size≤w.heap.size) {w1:World} (h1:(P.length=n∧n≤c∧n≤16)∧D.length=m∧m≤q∧m≤16) (h2:Rd w1 A (cellsOf P)∧Rd w1 C (cellsOf D)∧∀x∈D,Vh w1 x∧Aj w x.k.A) (hA:Aj w A) (hC:Aj w C):FH (GP w0) w1 ⟨nm,v,x,A,n,c,P,C,m,q,D⟩:=
 ⟨h2.1,h1.1.1,h1.1.2.1,Nat.le_trans h1.1.2.2 (by decide),h2.2.1,h1.2.1,h1.2.2.1,Nat.le_trans h1.2.2.2 (by decide),fun y hy=>(h2.2.2 y hy).1,fun _ ad e=>Nat.le_trans hs (hA.out ad e),fun _ ad e=>Nat.le_trans hs (hC.out ad e),fun y hy _ ad e=>Nat.le_trans hs ((h2.2.2 y hy).2.out ad e)⟩
theorem UN {r3:List Ak×Int} {sp:List AE} {l:List Xx} {m:List UInt8} {mk:List AC} {now:Int} (h:Di m=true) (hb:Fv l (KB m)=false) (hl:l=[]→KB m=CF):
    FY r3 sp l m mk now=match(if l.isEmpty then some r3 else Gn l (KB m)) with
     |none=>9
     |some k=>if BC m mk k.1 k.2 then(if(Dy sp (KB m)).getD 0=0∧Dy sp (KB m)=none then 9 else if(Dy sp (KB m)).getD 0=(JI m:Int) then(if(UI m:Int)≤now then 7 else 0) else 6) else 4:=by
 unfold FY;have h1:(Di m&&!Fv l (KB m)&&(!l.isEmpty||decide (KB m=CF)))=true:=by
  rw[h,hb];cases l with
  |nil=>rw[decide_eq_true (hl rfl)];rfl
  |cons a l=>rfl
 rw[if_pos h1];cases(if l.isEmpty then some r3 else Gn l (KB m)) with
 |none=>rfl
 |some k=>
  by_cases hm:BC m mk k.1 k.2=true
  ·dsimp only
   rw[if_pos hm,if_pos hm];cases Dy sp (KB m) with
   |none=>exact(if_pos ⟨rfl,rfl⟩).symm
   |some v=>exact(if_neg (fun h=>by cases h.2)).symm
  dsimp only
  rw[if_neg hm,if_neg hm]
theorem Ac8 {r3:List Ak×Int} {sp:List AE} {l:List Xx} {m:List UInt8} {mk:List AC} {now:Int} (h: ¬Di m=true):FY r3 sp l m mk now=2:=by
 unfold FY;rw[if_neg];intro h1;simp only[Bool.and_eq_true] at h1;exact h h1.1.1
theorem Ac9 {r3:List Ak×Int} {sp:List AE} {l:List Xx} {m:List UInt8} {mk:List AC} {now:Int} (h:Fv l (KB m)=true):FY r3 sp l m mk now=2:=by
 unfold FY;rw[if_neg];intro h1;simp only[Bool.and_eq_true] at h1;rw[h] at h1;exact absurd h1.1.2 (by decide)
theorem Aca {r3:List Ak×Int} {sp:List AE} {m:List UInt8} {mk:List AC} {now:Int} (h: ¬KB m=CF):FY r3 sp [] m mk now=2:=by
 unfold FY;rw[if_neg];intro h1;simp only[Bool.and_eq_true] at h1;rw[decide_eq_false h] at h1;exact absurd h1.2 (by decide)
theorem Pg {O:Nat→Prop} (v e0:Int) (K:List KR) (sv sx:Int) {SA:Option Addr} {sn sc:Nat} {sp:List AE} {A:Option Addr} {n c:Nat} {l:List Ea} (E:Em) (now:Int) {w:World} [hsp:HR w SA (cellsOf sp)] [hr:HR w A (cellsOf l)] (h4:K.length=4) (hK: ∀k∈K,BN w k) (hsl:sp.length=sn) (hs9:sn≤1000) (hpos: ∀p∈sp,1≤p.v) (hT: ∀t∈l,FH O w t) (hl:l.length=n) (h9:n≤1000) (hE:Cc w E):
    Calls Tryz.prog 38 #[.agg (BA v e0 K).toArray, .agg #[.int .i64 sv, .int .i64 sx, .slice SA sn sc], .slice A n c, .agg (Af.enc E).toArray, .int .i64 now] w (Aj9 (BU (v,e0,K.map KR.m) 3) sp (l.map Ea.k) E now w):=by
 have HE:=Lib.hid hE;have HK:=Lib.hid hK;have HT:=Lib.hid hT;have HRR:=Lib.hid hr.out;have HSR:=Lib.hid hsp.out;have HPOS:=Lib.hid hpos;have l3:3<K.length:=by omega
 have hlen:=BG v e0 K h4;have hone:=Bq v e0 K;have hse:(Af.enc E).toArray.size =2:=rfl;obtain⟨R,hR⟩: ∃R,R=FY (BU (v,e0,K.map KR.m) 3) sp (l.map Ea.k) E.m E.l now:=⟨_,rfl⟩;have HR0:Hid (R=FY (gt K 3).m sp (l.map Ea.k) E.m E.l now):=Lib.hid (by rw[hR,MD v e0 K 3 l3]);unfold Aj9;rw[←hR];clear hR hE hK hT hpos;go_enter Tryz.func38,Tryz.ntmps38;go_wp2_with (first|(refine Bv 5 ?_;intro zr wzr _ _ _)|(refine Bv 6 ?_;intro zs wzs _ _ _)|(refine Bv 8 ?_;intro ze wze _ _ _)|(refine BB 10 ?_;intro zo wzo _ _ _)|((with_reducible apply Ac);exact rfl;infer_instance;(first|(exact rfl)|(exact tg_hw _)|(exact tg_ctr _)|(exact tg_ecu _)|(exact srch_who)|exact srch_fd)));have n0:Nw w wzo:=inferInstance;have hszo:w.heap.size≤wzo.heap.size:=n0.out.size;have hm0:HR wzo E.M (bs E.m):=⟨(Cc.nw (w:=wzo) HE.out).mr⟩;refine(Jq (b:=E.m) HE.out.ml HE.out.mc HE.out.mn).mono ?_;rintro e w5 ⟨st5,nm,tv,tx,A1,n1,c1,C1,m1,q1,P1,D1,err1,rfl,hP1,hrd1,hA1,hC1⟩;have n5:Nw w w5:=inferInstance;have hzr5:HB w5 zr 33 (BA v e0 K).toArray :=inferInstance;have hzs5:HB w5 zs 39 #[.int .i64 sv, .int .i64 sx, .slice SA sn sc]:=inferInstance;have hze5:HB w5 ze 58 (Af.enc E).toArray :=inferInstance;have hzo5:HB w5 zo 66 GO:=inferInstance;have hzol:=hzo5.out.lt;have hbo:zo<wzo.heap.size:=(inferInstance:HB wzo zo 66 GO).out.lt;obtain⟨x,hx⟩: ∃x:Ea,x=⟨nm,tv,tx,A1,n1,c1,P1,C1,m1,q1,D1⟩:=⟨_,rfl⟩;have hxe:(#[.string (Al nm), .int .i64 tv, .int .i64 tx, .slice A1 n1 c1, .slice C1 m1 q1]:Array Value)=(Af.enc x).toArray :=by rw[hx];rfl
 have HXI:Hid (FH (GP wzo) w5 x):=Lib.hid (by rw[hx];exact Aez (Nat.le_refl _) hP1.out.2 hrd1.out hA1 hC1);have HPM:Hid ((x.nm,x.v,x.x,x.P,x.D.map Ax.m,err1)=tgM E.m):=Lib.hid (by rw[hx];exact hP1.out.1);rw[hxe];have hxs:(Af.enc x).toArray.size =5:=rfl;have hxo:=AY x;have x0:=Ags x;have x1:=Amo x;have x2:=Amp x;have hoff: ∀y,only zo y→¬GP wzo y:=fun y h1 h2=>by
  have h':y=zo:=h1;have h2':wzo.heap.size≤y:=h2;omega
 have hnew: ∀y,GP wzo y→GP w y:=fun y h=>Nat.le_trans hszo h
 clear hP1 hrd1 hA1 hC1 hx hxe hm0;by_cases hok:Di E.m=true
 ·have hm:=HPM.out;rw[Ag2 hok] at hm;obtain⟨hm1,hq1⟩:=Prod.mk.inj hm;obtain⟨hm2,hq2⟩:=Prod.mk.inj hq1;obtain⟨hm3,hq3⟩:=Prod.mk.inj hq2;obtain⟨hm4,hq4⟩:=Prod.mk.inj hq3;obtain⟨hm5,he1⟩:=Prod.mk.inj hq4;subst he1;have HOK:=Lib.hid hok;have HN:Hid (KB E.m=x.nm):=Lib.hid hm1.symm;have HVV:Hid ((JI E.m:Int)=x.v):=Lib.hid hm2.symm;have HXX:Hid ((UI E.m:Int)=x.x):=Lib.hid hm3.symm;have HKK:Hid (x.k=UQ E.m):=Lib.hid (by
   unfold Ea.k UQ;rw[hm1,hm2,hm3,hm4,hm5])
  clear hm hm1 hq1 hm2 hq2 hm3 hq3 hm4 hq4 hm5 hok;obtain⟨b,hb⟩: ∃b,b=Fv (l.map Ea.k) x.nm:=⟨_,rfl⟩;have HB0:=Lib.hid hb;clear hb;go_wp2_with (first|((with_reducible apply(Bu (dst:=some 28)));(with_reducible apply Ac);exact rfl;infer_instance;exact x0)|(refine WGC ?_)|(refine BB 12 ?_;intro zx wzx _ _ _)|(refine Ct ?_)|(refine CG ?_)|(refine Bt ?_;intro ws _ _));have hra:HR ws A (cellsOf l):=(inferInstance:Nw w ws).hrR HRR.out;refine(UK (l:=l) x.nm hl h9).mono ?_;rw[←HB0.out];rintro e w6 ⟨rfl,_⟩;have n6:Nw w w6:=inferInstance;have n56:Nw w5 w6:=inferInstance;have hzx6:HB w6 zx 66 (Af.enc x).toArray :=inferInstance;have hzo6:HB w6 zo 66 GO:=inferInstance;have hzr6:HB w6 zr 33 (BA v e0 K).toArray :=inferInstance;have hzs6:HB w6 zs 39 #[.int .i64 sv, .int .i64 sx, .slice SA sn sc]:=inferInstance;have hze6:HB w6 ze 58 (Af.enc E).toArray :=inferInstance;clear hzr5 hzs5 hze5 hzo5 hra;have h3:(3:Nat)<4:=by decide
  cases b with
  |true=>
   have HV:Hid (R=2):=Lib.hid (by rw[HR0.out];exact Ac9 (by rw[HN.out,←HB0.out]));go_wp2_with (first|(refine Cp ?_)|(refine Bt ?_;intro ws _ _));refine AA rfl rfl rfl (n:=5) rfl rfl ⟨Aa,x,2,rfl,Lib.hid ⟨HV.out.symm,fun h=>by cases h⟩,Lib.hid ((HXI.out.chg ((Aa (w0:=w5) (w:=w6)).chg.mono (T:=only zo) (fun _ _ h=>h.elim)) hoff|>.chg (inferInstance:Ch (only zo) w6 ws).out hoff).mono hnew)⟩
  |false=>
   by_cases hn:n=0
   ·subst hn;obtain rfl:l=[]:=List.eq_nil_of_length_eq_zero hl;by_cases ht:x.nm=CF
    ·have hT0:((Al x.nm).toList ==[116,111,112])=true:=by rw[ht,AI];rfl
     obtain⟨k,hk⟩: ∃k,k=gt K 3:=⟨_,rfl⟩;have HKI:Hid (BN w k):=Lib.hid (by rw[hk];exact HK.out _ (BD K 3 l3));have HRR1:Hid (R=if BC E.m E.l k.l k.need then(if(Dy sp x.nm).getD 0=0∧Dy sp x.nm=none then 9 else if(Dy sp x.nm).getD 0=x.v then(if x.x≤now then 7 else 0) else 6) else 4):=Lib.hid (by
      have h9:=UN (r3:=(gt K 3).m) (sp:=sp) (l:=[]) (mk:=E.l) (now:=now) HOK.out (by rw[HN.out];exact HB0.out.symm) (fun _=>by rw[HN.out];exact ht);rw[HN.out,HVV.out,HXX.out] at h9;rw[HR0.out,hk];exact h9)
     clear ht;have hke:(Af.enc k).toArray.size =2:=rfl;have hko:=AY k;go_wp2_with (first|(refine WH 37 0 hzx6 x0 ?_)|((with_reducible apply(Bu (dst:=some 43)));(with_reducible apply(CD (i:=3) (m:=4)));exact rfl;exact rfl;exact Tryz.underlying31;(kernel_rfl);exact h3)|((with_reducible apply(Bu (dst:=some 44)));(with_reducible apply(Ex (i:=3)));exact rfl;exact hzr6;infer_instance;exact l3)|(refine WL 57 0 x0 ?_)|(refine BB 14 ?_;intro zk wzk _ _ _)|(refine Ct ?_)|(refine CG ?_)|(refine Cp ?_)|(refine Bt ?_;intro ws _ _));have hzk:HB ws zk 30 (Af.enc k).toArray :=by rw[hk];infer_instance
     obtain⟨wp,hwp⟩: ∃wp:World,wp=ws:=⟨_,rfl⟩;subst hwp;have nwp:Nw w wp:=inferInstance;have n6p:Nw w6 wp:=inferInstance;clear hk;have hrs:HR wp SA (cellsOf sp):=nwp.hrR HSR.out;obtain⟨pv,hpv⟩: ∃pv,pv=(Dy sp x.nm).getD 0:=⟨_,rfl⟩;have HP0:Hid (pv=0↔Dy sp x.nm=none):=Lib.hid (by
      rw[hpv];cases hq:Dy sp x.nm with
      |none=>simp
      |some z=>
       obtain⟨p,hp,rfl⟩:=Xy hq;have:=HPOS.out p hp;simp;omega)
     refine(IL sv sx (P:=sp) x.nm hsl hs9).mono ?_;rw[←hpv];have HPV:=Lib.hid hpv;clear hpv;rintro e w8 ⟨rfl,_⟩;have n8:Nw w w8:=inferInstance;have hzx8:HB w8 zx 66 (Af.enc x).toArray :=inferInstance;have hzo8:HB w8 zo 66 GO:=inferInstance;have hzk8:HB w8 zk 30 (Af.enc k).toArray :=inferInstance;have hze8:HB w8 ze 58 (Af.enc E).toArray :=inferInstance;have hE8:=Cc.nw (w:=w8) HE.out;have hm8:HR w8 E.M (bs E.m):=⟨hE8.mr⟩;have ha8:HR w8 E.A (cellsOf E.l):=⟨hE8.ar⟩;have HK8:Hid (BN w8 k):=Lib.hid (BN.nw (w0:=w) HKI.out);have hk8:HR w8 k.A (cellsOf k.l):=⟨HK8.out.rd⟩;obtain⟨B,hB⟩: ∃B,B=BC E.m E.l k.l k.need:=⟨_,rfl⟩;have HBB:=Lib.hid hB;clear hE8 hB;go_wp2_with (first|(refine Cp ?_));refine(EH (m:=E.m) (l:=E.l) (ks:=k.l) k.need (fun r hr=>CC.nw (w0:=w) (w:=w8) (HE.out.marks r hr)) HE.out.al HE.out.an HE.out.ml HE.out.mn HK8.out.len (Nat.le_trans HK8.out.le (by decide))).mono ?_;rw[←HBB.out];rintro e w9 ⟨rfl,_⟩;have hzx9:HB w9 zx 66 (Af.enc x).toArray :=inferInstance;have hzo9:HB w9 zo 66 GO:=inferInstance;have n9:Nw w w9:=inferInstance;have n59:Nw w5 w9:=⟨n56.out.trans (Aa (w0:=w6) (w:=w9)).chg (fun _ _ h=>h)⟩;clear hm8 ha8 hk8 hzx8 hzo8 hzk8 hze8;cases B with
     |false=>
      have HV:Hid (R=4):=Lib.hid (by rw[HRR1.out,←HBB.out];rfl);go_wp2_with (first|(refine Cp ?_)|(refine Bt ?_;intro ws _ _));refine AA rfl rfl rfl (n:=5) rfl rfl ⟨Aa,x,4,rfl,Lib.hid ⟨HV.out.symm,fun h=>by cases h⟩,Lib.hid ((HXI.out.chg ((Aa (w0:=w5) (w:=w9)).chg.mono (T:=only zo) (fun _ _ h=>h.elim)) hoff|>.chg (inferInstance:Ch (only zo) w9 ws).out hoff).mono hnew)⟩
     |true=>
      by_cases hp:pv=0
      ·have HV:Hid (R=9):=Lib.hid (by rw[HRR1.out,←HBB.out,←HPV.out,if_pos rfl,if_pos ⟨hp,HP0.out.1 hp⟩]);subst hp;go_wp2_with (first|(refine Cp ?_)|(refine Bt ?_;intro ws _ _));refine AA rfl rfl rfl (n:=5) rfl rfl ⟨Aa,x,9,rfl,Lib.hid ⟨HV.out.symm,fun h=>by cases h⟩,Lib.hid ((HXI.out.chg ((Aa (w0:=w5) (w:=w9)).chg.mono (T:=only zo) (fun _ _ h=>h.elim)) hoff|>.chg (inferInstance:Ch (only zo) w9 ws).out hoff).mono hnew)⟩
      have hpb:(pv==0)=false:=by simp[hp]
      have hpJ:pv<0∨0<pv:=by omega
      have HR2:Hid (R=if pv=x.v then(if x.x≤now then 7 else 0) else 6):=Lib.hid (by rw[HRR1.out,←HBB.out,←HPV.out,if_pos rfl,if_neg (fun h=>hp h.1)]);clear hp;by_cases hv:pv=x.v
      ·have hvb:(pv !=x.v)=false:=by simp[hv]
       by_cases hx:x.x≤now
       ·have HV:Hid (R=7):=Lib.hid (by rw[HR2.out,if_pos hv,if_pos hx]);clear hv;go_wp2_with (first|(refine WH 76 1 hzx9 x1 ?_)|(refine WH 81 2 hzx9 x2 ?_)|(refine Cp ?_)|(refine Bt ?_;intro ws _ _));refine AA rfl rfl rfl (n:=5) rfl rfl ⟨Aa,x,7,rfl,Lib.hid ⟨HV.out.symm,fun h=>by cases h⟩,Lib.hid ((HXI.out.chg ((Aa (w0:=w5) (w:=w9)).chg.mono (T:=only zo) (fun _ _ h=>h.elim)) hoff|>.chg (inferInstance:Ch (only zo) w9 ws).out hoff).mono hnew)⟩
       have HV:Hid (R=0):=Lib.hid (by rw[HR2.out,if_pos hv,if_neg hx]);clear hv;go_wp2_with (first|(refine WH 76 1 hzx9 x1 ?_)|(refine WH 81 2 hzx9 x2 ?_)|(refine Cp ?_)|(refine Bt ?_;intro ws _ _));refine AA rfl rfl rfl (n:=5) rfl rfl ⟨Aa,x,0,rfl,Lib.hid ⟨HV.out.symm,fun _=>HKK.out⟩,Lib.hid ((HXI.out.chg ((Aa (w0:=w5) (w:=w9)).chg.mono (T:=only zo) (fun _ _ h=>h.elim)) hoff|>.chg (inferInstance:Ch (only zo) w9 ws).out hoff).mono hnew)⟩
      have hvb:(pv !=x.v)=true:=by simp[hv]
      have HV:Hid (R=6):=Lib.hid (by rw[HR2.out,if_neg hv]);have hvJ:pv<x.v∨x.v<pv:=by omega
      clear hv;go_wp2_with (first|(refine WH 76 1 hzx9 x1 ?_)|(refine Cp ?_)|(refine Bt ?_;intro ws _ _));refine AA rfl rfl rfl (n:=5) rfl rfl ⟨Aa,x,6,rfl,Lib.hid ⟨HV.out.symm,fun h=>by cases h⟩,Lib.hid ((HXI.out.chg ((Aa (w0:=w5) (w:=w9)).chg.mono (T:=only zo) (fun _ _ h=>h.elim)) hoff|>.chg (inferInstance:Ch (only zo) w9 ws).out hoff).mono hnew)⟩
    have hT0:((Al x.nm).toList ==[116,111,112])=false:=by rw[AI];simpa[CF] using ht
    have HV:Hid (R=2):=Lib.hid (by rw[HR0.out];exact Aca (by rw[HN.out];exact ht));clear ht;go_wp2_with (first|(refine WH 37 0 hzx6 x0 ?_)|(refine Ct ?_)|(refine CG ?_)|(refine Cp ?_)|(refine Bt ?_;intro ws _ _));refine AA rfl rfl rfl (n:=5) rfl rfl ⟨Aa,x,2,rfl,Lib.hid ⟨HV.out.symm,fun h=>by cases h⟩,Lib.hid ((HXI.out.chg ((Aa (w0:=w5) (w:=w6)).chg.mono (T:=only zo) (fun _ _ h=>h.elim)) hoff|>.chg (inferInstance:Ch (only zo) w6 ws).out hoff).mono hnew)⟩
   have hnb:((n:Int)==0)=false:=by simp[hn]
   have hnI:0<(n:Int):=by omega
   have hl0:(l.map Ea.k).isEmpty =false:=by
    cases l with
    |nil=>exact absurd hl.symm hn
    |cons a l=>rfl
   have hl1:l.map Ea.k=[]→KB E.m=CF:=fun h=>by rw[h] at hl0;cases hl0
   have HRR0:Hid (R=match Gn (l.map Ea.k) x.nm with
         |none=>9
         |some k=>if BC E.m E.l k.1 k.2 then(if(Dy sp x.nm).getD 0=0∧Dy sp x.nm=none then 9 else if(Dy sp x.nm).getD 0=x.v then(if x.x≤now then 7 else 0) else 6) else 4):=Lib.hid (by
    have h9:=UN (r3:=(gt K 3).m) (sp:=sp) (l:=l.map Ea.k) (mk:=E.l) (now:=now) HOK.out (by rw[HN.out];exact HB0.out.symm) hl1;rw[HN.out,HVV.out,HXX.out,hl0,if_neg (by decide)] at h9;rw[HR0.out];exact h9)
   clear hl0 hl1;go_wp2_with (first|go_skip|((with_reducible apply(Bu (dst:=some 43)));(with_reducible apply(CD (i:=3) (m:=4)));exact rfl;exact rfl;exact Tryz.underlying31;(kernel_rfl);exact h3)|((with_reducible apply(Bu (dst:=some 44)));(with_reducible apply(Ex (i:=3)));exact rfl;exact hzr6;infer_instance;exact l3)|(refine WL 51 0 x0 ?_)|(refine BB 14 ?_;intro zk wzk _ _ _)|(refine Bt ?_;intro ws _ _));have hra7:HR ws A (cellsOf l):=(inferInstance:Nw w ws).hrR HRR.out;refine(Qh (O:=O) (l:=l) x.nm (fun t ht=>(HT.out t ht).chg (inferInstance:Nw w ws).out (fun _ h=>h.elim)) hl h9).mono ?_;obtain⟨okb,hokb⟩: ∃okb,okb=(Gn (l.map Ea.k) x.nm).isSome :=⟨_,rfl⟩;rw[←hokb];rintro e wk ⟨_,k,rfl,hkq⟩;have HKI:Hid (BN w k):=Lib.hid (hkq.out.kin HT.out);have HKO:Hid ((if okb then some k.m else none)=Gn (l.map Ea.k) x.nm):=Lib.hid (by rw[hokb];exact hkq.out.1);have hke:(Af.enc k).toArray.size =2:=rfl;have hko:=AY k;have hzxk:HB wk zx 66 (Af.enc x).toArray :=inferInstance;have hzsk:HB wk zs 39 #[.int .i64 sv, .int .i64 sx, .slice SA sn sc]:=inferInstance;have hzek:HB wk ze 58 (Af.enc E).toArray :=inferInstance;have hzok:HB wk zo 66 GO:=inferInstance;have nk:Nw w wk:=inferInstance;have n6k:Nw w6 wk:=inferInstance;have hzkb:w6.heap.size≤zk:=by
    have h9:=(inferInstance:Aj w6 (some ⟨zk,0,none⟩)).out _ rfl;exact h9
   have azk6:Cn w6 (only zk):=⟨fun y h=>by have h':y=zk:=h;omega⟩;have azkw:Cn w (only zk):=⟨fun y h=>by have h':y=zk:=h;have:=n6.out.size;omega⟩;clear hkq hokb hra7 hzx6 hzo6 hzr6 hzs6 hze6;go_wp2_with (first|(refine WL 57 0 x0 ?_)|(refine Cp ?_)|(refine Bt ?_;intro ws _ _));have hzk:HB ws zk 30 (Af.enc k).toArray :=inferInstance;obtain⟨wp,hwp⟩: ∃wp:World,wp=ws:=⟨_,rfl⟩;subst hwp;have nwp:Nw w wp:=inferInstance;have n6p:Nw w6 wp:=inferInstance;have hrs:HR wp SA (cellsOf sp):=nwp.hrR HSR.out;obtain⟨pv,hpv⟩: ∃pv,pv=(Dy sp x.nm).getD 0:=⟨_,rfl⟩;have HP0:Hid (pv=0↔Dy sp x.nm=none):=Lib.hid (by
    rw[hpv];cases hq:Dy sp x.nm with
    |none=>simp
    |some z=>
     obtain⟨p,hp,rfl⟩:=Xy hq;have:=HPOS.out p hp;simp;omega)
   refine(IL sv sx (P:=sp) x.nm hsl hs9).mono ?_;rw[←hpv];have HPV:=Lib.hid hpv;clear hpv;rintro e w8 ⟨rfl,_⟩;have n8:Nw w w8:=inferInstance;have hzx8:HB w8 zx 66 (Af.enc x).toArray :=inferInstance;have hzo8:HB w8 zo 66 GO:=inferInstance;have hzk8:HB w8 zk 30 (Af.enc k).toArray :=inferInstance;have hze8:HB w8 ze 58 (Af.enc E).toArray :=inferInstance;cases okb with
   |false=>
    have HV:Hid (R=9):=Lib.hid (by rw[HRR0.out,←HKO.out];rfl);go_wp2_with (first|(refine Cp ?_)|(refine Bt ?_;intro ws _ _));have n58:Nw w5 w8:=⟨n56.out.trans (Aa (w0:=w6) (w:=w8)).chg (fun _ _ h=>h)⟩;refine AA rfl rfl rfl (n:=5) rfl rfl ⟨Aa,x,9,rfl,Lib.hid ⟨HV.out.symm,fun h=>by cases h⟩,Lib.hid ((HXI.out.chg ((Aa (w0:=w5) (w:=w8)).chg.mono (T:=only zo) (fun _ _ h=>h.elim)) hoff|>.chg (inferInstance:Ch (only zo) w8 ws).out hoff).mono hnew)⟩
   |true=>
    have HRR1:Hid (R=if BC E.m E.l k.l k.need then(if(Dy sp x.nm).getD 0=0∧Dy sp x.nm=none then 9 else if(Dy sp x.nm).getD 0=x.v then(if x.x≤now then 7 else 0) else 6) else 4):=Lib.hid (by
     rw[HRR0.out,←HKO.out];rfl)
    have hE8:=Cc.nw (w:=w8) HE.out;have hm8:HR w8 E.M (bs E.m):=⟨hE8.mr⟩;have ha8:HR w8 E.A (cellsOf E.l):=⟨hE8.ar⟩;have HK8:Hid (BN w8 k):=Lib.hid (BN.nw (w0:=w) HKI.out);have hk8:HR w8 k.A (cellsOf k.l):=⟨HK8.out.rd⟩;obtain⟨B,hB⟩: ∃B,B=BC E.m E.l k.l k.need:=⟨_,rfl⟩;have HBB:=Lib.hid hB;clear hE8 hB;go_wp2_with (first|(refine Cp ?_));refine(EH (m:=E.m) (l:=E.l) (ks:=k.l) k.need (fun r hr=>CC.nw (w0:=w) (w:=w8) (HE.out.marks r hr)) HE.out.al HE.out.an HE.out.ml HE.out.mn HK8.out.len (Nat.le_trans HK8.out.le (by decide))).mono ?_;rw[←HBB.out];rintro e w9 ⟨rfl,_⟩;have hzx9:HB w9 zx 66 (Af.enc x).toArray :=inferInstance;have hzo9:HB w9 zo 66 GO:=inferInstance;have n9:Nw w w9:=inferInstance;have n59:Nw w5 w9:=⟨n56.out.trans (Aa (w0:=w6) (w:=w9)).chg (fun _ _ h=>h)⟩;clear hm8 ha8 hk8 hzx8 hzo8 hzk8 hze8;cases B with
    |false=>
     have HV:Hid (R=4):=Lib.hid (by rw[HRR1.out,←HBB.out];rfl);go_wp2_with (first|(refine Cp ?_)|(refine Bt ?_;intro ws _ _));refine AA rfl rfl rfl (n:=5) rfl rfl ⟨Aa,x,4,rfl,Lib.hid ⟨HV.out.symm,fun h=>by cases h⟩,Lib.hid ((HXI.out.chg ((Aa (w0:=w5) (w:=w9)).chg.mono (T:=only zo) (fun _ _ h=>h.elim)) hoff|>.chg (inferInstance:Ch (only zo) w9 ws).out hoff).mono hnew)⟩
    |true=>
     by_cases hp:pv=0
     ·have HV:Hid (R=9):=Lib.hid (by rw[HRR1.out,←HBB.out,←HPV.out,if_pos rfl,if_pos ⟨hp,HP0.out.1 hp⟩]);subst hp;go_wp2_with (first|(refine Cp ?_)|(refine Bt ?_;intro ws _ _));refine AA rfl rfl rfl (n:=5) rfl rfl ⟨Aa,x,9,rfl,Lib.hid ⟨HV.out.symm,fun h=>by cases h⟩,Lib.hid ((HXI.out.chg ((Aa (w0:=w5) (w:=w9)).chg.mono (T:=only zo) (fun _ _ h=>h.elim)) hoff|>.chg (inferInstance:Ch (only zo) w9 ws).out hoff).mono hnew)⟩
     have hpb:(pv==0)=false:=by simp[hp]
     have hpJ:pv<0∨0<pv:=by omega
     have HR2:Hid (R=if pv=x.v then(if x.x≤now then 7 else 0) else 6):=Lib.hid (by rw[HRR1.out,←HBB.out,←HPV.out,if_pos rfl,if_neg (fun h=>hp h.1)]);clear hp;by_cases hv:pv=x.v
     ·have hvb:(pv !=x.v)=false:=by simp[hv]
      by_cases hx:x.x≤now
      ·have HV:Hid (R=7):=Lib.hid (by rw[HR2.out,if_pos hv,if_pos hx]);clear hv;go_wp2_with (first|(refine WH 76 1 hzx9 x1 ?_)|(refine WH 81 2 hzx9 x2 ?_)|(refine Cp ?_)|(refine Bt ?_;intro ws _ _));refine AA rfl rfl rfl (n:=5) rfl rfl ⟨Aa,x,7,rfl,Lib.hid ⟨HV.out.symm,fun h=>by cases h⟩,Lib.hid ((HXI.out.chg ((Aa (w0:=w5) (w:=w9)).chg.mono (T:=only zo) (fun _ _ h=>h.elim)) hoff|>.chg (inferInstance:Ch (only zo) w9 ws).out hoff).mono hnew)⟩
      have HV:Hid (R=0):=Lib.hid (by rw[HR2.out,if_pos hv,if_neg hx]);clear hv;go_wp2_with (first|(refine WH 76 1 hzx9 x1 ?_)|(refine WH 81 2 hzx9 x2 ?_)|(refine Cp ?_)|(refine Bt ?_;intro ws _ _));refine AA rfl rfl rfl (n:=5) rfl rfl ⟨Aa,x,0,rfl,Lib.hid ⟨HV.out.symm,fun _=>HKK.out⟩,Lib.hid ((HXI.out.chg ((Aa (w0:=w5) (w:=w9)).chg.mono (T:=only zo) (fun _ _ h=>h.elim)) hoff|>.chg (inferInstance:Ch (only zo) w9 ws).out hoff).mono hnew)⟩
     have hvb:(pv !=x.v)=true:=by simp[hv]
     have HV:Hid (R=6):=Lib.hid (by rw[HR2.out,if_neg hv]);have hvJ:pv<x.v∨x.v<pv:=by omega
     clear hv;go_wp2_with (first|(refine WH 76 1 hzx9 x1 ?_)|(refine Cp ?_)|(refine Bt ?_;intro ws _ _));refine AA rfl rfl rfl (n:=5) rfl rfl ⟨Aa,x,6,rfl,Lib.hid ⟨HV.out.symm,fun h=>by cases h⟩,Lib.hid ((HXI.out.chg ((Aa (w0:=w5) (w:=w9)).chg.mono (T:=only zo) (fun _ _ h=>h.elim)) hoff|>.chg (inferInstance:Ch (only zo) w9 ws).out hoff).mono hnew)⟩
 have hm:=HPM.out;rw[Ag3 (by simpa using hok)] at hm;have he1:err1=2:=(Prod.mk.inj (Prod.mk.inj (Prod.mk.inj (Prod.mk.inj (Prod.mk.inj hm).2).2).2).2).2;have HV:Hid (R=2):=Lib.hid (by rw[HR0.out];exact Ac8 hok);subst he1;clear hm hok;go_wp2_with (first|(refine BB 12 ?_;intro zx wzx _ _ _)|(refine Cp ?_)|(refine Bt ?_;intro ws _ _));refine AA rfl rfl rfl (n:=5) rfl rfl ⟨Aa,x,2,rfl,Lib.hid ⟨HV.out.symm,fun h=>by cases h⟩,Lib.hid ((HXI.out.chg ((Aa (w0:=w5) (w:=w5)).chg.mono (T:=only zo) (fun _ _ h=>h.elim)) hoff|>.chg (inferInstance:Ch (only zo) w5 ws).out hoff).mono hnew)⟩
end Go.Proofs.YtjjhceeookpieaaGreat
end
section
open Go Go.RowKit
namespace Go.Proofs.YtjjhceeookpieaaGreat
def Qi (r:List Value) (b:Value) (t s:List Value) (g:Value):List Value:=r++([b]++(t++(s++[g])))
theorem Acb (t:Jf):Fy t=Qi (BA t.v t.x t.K) (.bool t.set) (BI t.tm.v t.tm.e t.tm.s t.tm.h) [.int .i64 t.sv, .int .i64 t.sx, .slice t.A t.n t.c] (.slice t.G t.gn t.gc):=by
 unfold Fy Rc Qi;simp
theorem Xv (r r':List Value) (b:Value) (t s:List Value) (g:Value) (h:r.length=r'.length):GH 0 r'.toArray (Qi r b t s g).toArray =(Qi r' b t s g).toArray :=
 DA 0 r'.toArray [] r _ rfl (by simpa using h)
theorem Acc (r:List Value) (b b':Value) (t s:List Value) (g:Value) (h:r.length=10):GH 10 #[b'] (Qi r b t s g).toArray =(Qi r b' t s g).toArray :=
 DA 10 #[b'] r [b] _ h rfl
theorem Afm (r:List Value) (b:Value) (t s:List Value) (g:Value):Qi r b t s g=(r++[b])++(t++(s++[g])):=by simp[Qi]
theorem Afn (r:List Value) (b:Value) (t s:List Value) (g:Value):Qi r b t s g=(r++[b]++t)++(s++[g]):=by simp[Qi]
theorem Afo (r:List Value) (b:Value) (t s:List Value) (g:Value):Qi r b t s g=(r++[b]++t++s)++([g]++[]):=by simp[Qi]
theorem Acd (r:List Value) (b:Value) (t t' s:List Value) (g:Value) (h:r.length=10) (ht:t.length=t'.length):GH 11 t'.toArray (Qi r b t s g).toArray =(Qi r b t' s g).toArray :=by
 rw[Afm,Afm];exact DA 11 t'.toArray (r++[b]) t _ (by simp[h]) (by simpa using ht)
theorem Ace (r:List Value) (b:Value) (t s s':List Value) (g:Value) (h:r.length=10) (ht:t.length=35) (hs:s.length=s'.length):GH 46 s'.toArray (Qi r b t s g).toArray =(Qi r b t s' g).toArray :=by
 rw[Afn,Afn];exact DA 46 s'.toArray (r++[b]++t) s _ (by simp[h,ht]) (by simpa using hs)
theorem Acf (r:List Value) (b:Value) (t s:List Value) (g g':Value) (h:r.length=10) (ht:t.length=35) (hs:s.length=3):GH 49 #[g'] (Qi r b t s g).toArray =(Qi r b t s g').toArray :=by
 rw[Afo,Afo];exact DA 49 #[g'] (r++[b]++t++s) [g] [] (by simp[h,ht,hs]) rfl
def trP:Array (Nat×Nat):=#[(0,10),(10,1),(11,35),(46,3),(49,1)]
theorem Xw {parts:Array (Nat×Value)} {cells:Array Value} (hf:Instr.fill (trP[·]?) (Qi (BA 0 0 DJ) (.bool false) (BI 0 0 0 Aq) [.int .i64 0, .int .i64 0, .slice none 0 0] (.slice none 0 0)).toArray parts.toList=some cells) (w:World):
    (Instr.build 42 parts).run Tryz.prog w= .ok (.agg cells) w:=by
 refine Cu Tryz.underlying42 (zv:= .agg (Fy (SV 0 0 DJ)).toArray) (fun _=>by kernel_rfl) (places:=trP) (fun _=>by kernel_rfl) ?_ w;show Instr.fill _ (Fy (SV 0 0 DJ)).toArray parts.toList=_;rw[Acb];exact hf
theorem Iq (r:List Value) (b:Value) (t s:List Value) (g:Value) (h:r.length=10) (ht:t.length=35) (hs:s.length=3):(Qi r b t s g).toArray.size =50:=by
 simp[Qi,h,ht,hs]
theorem Af0 (v x:Int) (K:List KR) (b:Bool) (tm:Kj) (sv sx:Int) (A:Option Addr) (n c:Nat) (P:List AE) (G:Option Addr) (gn gc:Nat) (l:List Ea) (h4:K.length=4) (w:World):
    (Instr.build 42 #[(0, .agg (BA v x K).toArray),(1, .bool b),(2, .agg tm.arr),(3, .agg #[.int .i64 sv, .int .i64 sx, .slice A n c]),(4, .slice G gn gc)]).run Tryz.prog w= .ok (.agg (Fy ⟨v,x,K,b,tm,sv,sx,A,n,c,P,G,gn,gc,l⟩).toArray) w:=by
 refine Xw ?_ w;have h0:(BA 0 0 DJ).length =10:=rfl;have h1:=Ez v x K h4;have ht0:=EB 0 0 0 Aq;have ht:=EB tm.v tm.e tm.s tm.h;show Instr.fill _ _ [(0, .agg (BA v x K).toArray),(1, .bool b),(2, .agg tm.arr),(3, .agg #[.int .i64 sv, .int .i64 sx, .slice A n c]),(4, .slice G gn gc)]=_;rw[AZ _ _ 0 _ _ (off:=0) (size:=10) rfl (by show(BA v x K).toArray.size =10;simpa using h1) (by rw[Iq _ _ _ _ _ h0 ht0 rfl];decide)];rw[show GH 0 (Value.agg (BA v x K).toArray).cells _=_ from Xv _ (BA v x K) _ _ _ _ (by rw[h0,h1])];rw[AZ _ _ 1 _ _ (off:=10) (size:=1) rfl rfl (by rw[Iq _ _ _ _ _ h1 ht0 rfl];decide)];rw[show GH 10 (Value.bool b).cells _=_ from Acc _ _ (.bool b) _ _ _ h1];rw[AZ _ _ 2 _ _ (off:=11) (size:=35) rfl (by show tm.arr.size=35;exact Ip tm) (by rw[Iq _ _ _ _ _ h1 ht0 rfl];decide)];rw[show GH 11 (Value.agg tm.arr).cells _=_ from Acd _ _ _ (BI tm.v tm.e tm.s tm.h) _ _ h1 (by rw[ht0,ht])];rw[AZ _ _ 3 _ _ (off:=46) (size:=3) rfl rfl (by rw[Iq _ _ _ _ _ h1 ht rfl];decide)];rw[show GH 46 (Value.agg #[.int .i64 sv, .int .i64 sx, .slice A n c]).cells _=_ from Ace _ _ _ [.int .i64 0, .int .i64 0, .slice none 0 0] [.int .i64 sv, .int .i64 sx, .slice A n c] _ h1 ht rfl];rw[AZ _ _ 4 _ _ (off:=49) (size:=1) rfl rfl (by rw[Iq _ _ _ _ _ h1 ht rfl];decide)];rw[show GH 49 (Value.slice G gn gc).cells _=_ from Acf _ _ _ _ (.slice none 0 0) (.slice G gn gc) h1 ht rfl];rw[Acb];rfl
theorem Af1 (v x:Int) (K:List KR) (h4:K.length=4) (w:World):
    (Instr.build 42 #[(0, .agg (BA v x K).toArray)]).run Tryz.prog w= .ok (.agg (Fy (SV v x K)).toArray) w:=by
 refine Xw ?_ w;have h0:(BA 0 0 DJ).length =10:=rfl;have h1:=Ez v x K h4;have ht0:=EB 0 0 0 Aq;show Instr.fill _ _ [(0, .agg (BA v x K).toArray)]=_;rw[AZ _ _ 0 _ _ (off:=0) (size:=10) rfl (by show(BA v x K).toArray.size =10;simpa using h1) (by rw[Iq _ _ _ _ _ h0 ht0 rfl];decide)];rw[show GH 0 (Value.agg (BA v x K).toArray).cells _=_ from Xv _ (BA v x K) _ _ _ _ (by rw[h0,h1])];rw[Acb];rfl
instance Aja:AL Tryz.prog 54:=⟨fun _=>by kernel_rfl,fun _=>by kernel_rfl⟩
instance Ahd:AL Tryz.prog 37:=⟨fun _=>by kernel_rfl,fun _=>by kernel_rfl⟩
def Ki (b:IM):List Value:= .slice b.XA b.xn b.xc::(Af.enc b.t++(Af.enc b.s++[.slice b.GA b.gn b.gc]))
structure Nq (w:World) (b:IM):Prop where
 xr:Rd w b.XA (cellsOf b.X)
 xl:b.X.length=b.xn
 xm:b.xn≤9223372036854775807
 xe: ∀E∈b.X,Cc w E
 te:Cc w b.t
 se:Cc w b.s
 gr:Rd w b.GA (cellsOf b.G)
 gl:b.G.length=b.gn
 gm:b.gn≤9223372036854775807
 ge: ∀E∈b.G,Cc w E
theorem Nq.nw {w0 w:World} [n:Nw w0 w] {b:IM} (h:Nq w0 b):Nq w b:=⟨h.xr.later n.out,h.xl,h.xm,fun E hE=>Cc.nw (h.xe E hE),Cc.nw h.te,Cc.nw h.se,h.gr.later n.out,h.gl,h.gm,fun E hE=>Cc.nw (h.ge E hE)⟩
theorem Ajb (b:IM):Eg (Ki b).toArray.toList 0=some (.slice b.XA b.xn b.xc):=rfl
theorem Afp (b:IM):Eg (Ki b).toArray.toList 5=some (.slice b.GA b.gn b.gc):=rfl
theorem Ajc (b:IM):((Ki b).toArray.toList.drop 1).take 2=Af.enc b.t:=rfl
theorem Ajd (b:IM):((Ki b).toArray.toList.drop 3).take 2=Af.enc b.s:=rfl
theorem Acg (b:IM):(Ki b).toArray.size =6:=rfl
theorem FH.passN {O:Nat→Prop} {w w':World} {t:Ea} [n:Nw w w'] (h:FH O w t):FH O w' t:=h.chg n.out (fun _ h=>h.elim)
theorem FH.passZ {wc w w':World} {z:Nat} {t:Ea} {ty:TypeId} {cs:Array Value} [hz:HB wc z ty cs] [c:Ag (only z) w w'] (h:FH (GP wc) w t):FH (GP wc) w' t:=h.chg c.chg (fun y h1 h2=>by
 have h':y=z:=h1;have hl:=hz.out.lt;have h2':wc.heap.size≤y:=h2;omega)
def Aje (O:Nat→Prop) (t:Jf) (b:IM) (now:Int) (w:World):Ending→World→Prop:=fun e w'=>Ag Ab w w'∧∃(t':Jf) (err:Int),e= .returned (.tuple #[.agg (Fy t').toArray, .int .i64 err])∧Hid ((t'.m,err)=KV t.m b now)∧Hid (Fz (Kh O w) w' t')
theorem Af2 (x:Ea) (w:World):(Instr.buildSlice 40 1 #[(0, .agg (Af.enc x).toArray)]).run Tryz.prog w= .ok (.slice (some ⟨w.heap.size,0,none⟩) 1 1) (w.alloc (.cells (cellsOf [x]).toArray 66)):=by kernel_rfl
end Go.Proofs.YtjjhceeookpieaaGreat
end
section
set_option maxRecDepth 100000
set_option maxHeartbeats 6400000
open Go Go.RowKit
namespace Go.Proofs.YtjjhceeookpieaaGreat
theorem Hy {O:Nat→Prop} (t:Jf) (b:IM) (now:Int) {w:World} (ht:Fz O w t) (hO: ∀y,O y→y<w.heap.size) (hb:Nq w b):
    Calls Tryz.prog 12 #[.agg (Fy t).toArray, .agg (Ki b).toArray, .int .i64 now] w (Aje O t b now w):=by
 have HT:=Lib.hid ht;have HBN:=Lib.hid hb;have h4t:=ht.k4;have hts:=Ft t h4t;have hto:=Hj t;have hbs:=Acg b;have hbo:(Ki b).toArray.all (·.oneCell')=true:=by rw[List.all_toArray];rfl
 have hz50:(Fy (SV 0 0 DJ)).toArray.size =50:=rfl;obtain⟨U,hU⟩: ∃U,U=KV t.m b now:=⟨_,rfl⟩;have HU:=Lib.hid hU;unfold Aje;rw[←hU];clear ht hb hU;go_enter Tryz.func12,Tryz.ntmps12;go_wp2_with (first|((with_reducible apply(Bu (dst:=some 18)));(with_reducible apply(CA (k:=0) (n:=10)));exact rfl;infer_instance;infer_instance;(decide);exact Aey _ h4t;exact Ez _ _ _ h4t)|(refine WL 20 0 (Ajb _) ?_)|(refine Bv 3 ?_;intro zt wzt _ _ _)|(refine Bv 4 ?_;intro zb wzb _ _ _)|(refine BB 6 ?_;intro zo wzo _ _ _));have hzt:HB wzo zt 42 (Fy t).toArray :=inferInstance;have hzb:HB wzo zb 60 (Ki b).toArray :=inferInstance;have hzo:HB wzo zo 42 (Fy (SV 0 0 DJ)).toArray :=inferInstance;have n0:Nw w wzo:=inferInstance;have hszo:w.heap.size≤wzo.heap.size:=n0.out.size;have hzol:=hzo.out.lt;have hbo2:w.heap.size≤zo:=by
  have h1:=(Aj.monoS (w0:=w) (Aj.of_born (z:=zo) 0)).out ⟨zo,0,none⟩ rfl;exact h1
 have hrX:HR wzo b.XA (cellsOf b.X):=n0.hrR HBN.out.xr;have HOz:Hid (∀y,only zo y→¬O y):=Lib.hid (fun y h1 h2=>by
  have h':y=zo:=h1;have:=hO y h2;omega)
 obtain⟨O1,hO1⟩: ∃O1,O1=Kh O wzo:=⟨_,rfl⟩;have HO1z:Hid (∀y,only zo y→¬O1 y):=Lib.hid (fun y h1 h2=>by
  have h':y=zo:=h1;rw[hO1] at h2;rcases h2 with h2|h2
  ·exact HOz.out y h1 h2
  omega)
 have HO1n:Hid (∀y,O1 y→Kh O w y):=Lib.hid (fun y h=>by
  rw[hO1] at h;rcases h with h|h
  ·exact .inl h
  exact .inr (Nat.le_trans hszo h))
 --what is told where it errs
 have hErr: ∀(wf:World),Au (only zo) wzo wf→Fz (Kh O w) wf t:=fun wf hc=>((HT.out.chg (n0.out.mono (T:=only zo) (fun _ _ h=>h.elim)) HOz.out).chg hc HOz.out).mono (fun _ h=> .inl h)
 have HERR:=Lib.hid hErr;clear hErr;refine(SF (O:=O) t.v t.x t.K h4t now (L:=b.X) (fun k hk=>BN.nw (w0:=w) (w:=wzo) (HT.out.kin k hk)) HT.out.ko (fun E hE=>Cc.nw (w0:=w) (w:=wzo) (HBN.out.xe E hE)) HBN.out.xl HBN.out.xm).mono ?_;rintro e w5 ⟨st5,v1,x1,K1,err1,rfl,NH,hKs1⟩;rw[←hO1] at hKs1;have hl1:=BG v1 x1 K1 NH.out.1;have ho1:=Bq v1 x1 K1;have h41:K1.length=4:=NH.out.1;have HR1:Hid (CT t.m.r b.X now=((v1,x1,K1.map KR.m),err1)):=Lib.hid NH.out.2.symm;have hzt5:HB w5 zt 42 (Fy t).toArray :=inferInstance;have hzb5:HB w5 zb 60 (Ki b).toArray :=inferInstance;have hzo5:HB w5 zo 42 (Fy (SV 0 0 DJ)).toArray :=inferInstance;clear hzt hzb hzo hrX hO1;by_cases he1:err1=0
 ·subst he1;have HV0:=HU;go_wp2_with (first|((with_reducible apply(Bu (dst:=some 33)));(with_reducible apply(CA (k:=1) (n:=2)));exact rfl;infer_instance;infer_instance;(decide);exact Ajc _;exact rfl)|(refine BB 8 ?_;intro z8 wz8 _ _ _)|(refine Cp ?_)|(refine Bt ?_;intro ws _ _));have HT5:=Lib.hid (HT.out.chg (Aa (w0:=w) (w:=ws)).chg (fun _ h=>h.elim));have hEt:=Lib.hid (Cc.nw (w0:=w) (w:=ws) HBN.out.te);have hKt:=Lib.hid (fun k hk=>BN.nw (w0:=w5) (w:=ws) (hKs1.out k hk).1);refine(UL t v1 x1 K1 b.t now h4t h41 hKt.out hEt.out).mono ?_;rintro e w6 ⟨st6,tm,err2,rfl,htm⟩;have htz:=Ip tm;have hton:=SE tm;have hzt6:HB w6 zt 42 (Fy t).toArray :=inferInstance;have hzb6:HB w6 zb 60 (Ki b).toArray :=inferInstance;have hzo6:HB w6 zo 42 (Fy (SV 0 0 DJ)).toArray :=inferInstance;have hz86:HB w6 z8 33 (BA v1 x1 K1).toArray :=inferInstance;have n56:Nw w5 w6:=inferInstance;have n06:Nw wzo w6:=inferInstance;clear hzt5 hzb5 hzo5;by_cases he2:err2=0
  ·subst he2;have HT2:Hid (EL t.m.set t.m.tv t.m.ts (BU (v1,x1,K1.map KR.m) 1) b.t.m b.t.l now=0):=Lib.hid htm.out.1.symm;have HTE:=Lib.hid (htm.out.2 rfl);go_wp2_with (first|((with_reducible apply(Bu (dst:=some 47)));(with_reducible apply(CA (k:=3) (n:=2)));exact rfl;infer_instance;infer_instance;(decide);exact Ajd _;exact rfl)|(refine BB 10 ?_;intro z10 wz10 _ _ _)|(refine Cp ?_)|(refine Bt ?_;intro ws _ _));have HT6:=Lib.hid (HT.out.chg (Aa (w0:=w) (w:=ws)).chg (fun _ h=>h.elim));have hEs:=Lib.hid (Cc.nw (w0:=w) (w:=ws) HBN.out.se);have hKs:=Lib.hid (fun k hk=>BN.nw (w0:=w5) (w:=ws) (hKs1.out k hk).1);refine(UM (O:=O) t v1 x1 K1 tm b.s now HT6.out h41 hKs.out hEs.out).mono ?_;rintro e w7 ⟨st7,sv,sx,SA,sn,sc,SP,err3,rfl,hsn,hsr,hSA⟩;have hSA5:Aj w5 SA:=Aj.monoS (w0:=w5) hSA;have hzt7:HB w7 zt 42 (Fy t).toArray :=inferInstance;have hzb7:HB w7 zb 60 (Ki b).toArray :=inferInstance;have hzo7:HB w7 zo 42 (Fy (SV 0 0 DJ)).toArray :=inferInstance;have hz87:HB w7 z8 33 (BA v1 x1 K1).toArray :=inferInstance;have hz107:HB w7 z10 36 tm.arr:=inferInstance;have n57:Nw w5 w7:=inferInstance;have n07:Nw wzo w7:=inferInstance;clear hzt6 hzb6 hzo6 hz86;have HT3:Hid (Fu t.m.set t.m.sp (BU (v1,x1,K1.map KR.m) 2) (SW b.t.m) (UP b.t.m) b.s.m b.s.l now=err3):=Lib.hid (by
    have h:=hsn.out.1.1.symm;rw[HTE.out] at h;exact h)
   by_cases he3:err3=0
   ·subst he3;obtain⟨hsok,hsv,hsx,hsp⟩:=hsn.out.1.2 rfl;have hspl:=hsn.out.2;have HU4:=Lib.hid (Agz HR1.out HT2.out HT3.out);have HSP:Hid (SP=KY b.s.m∧sv=(Qc b.s.m:Int)∧sx=(Qd b.s.m:Int)):=Lib.hid ⟨hsp,hsv,hsx⟩;have HPOS:Hid (∀p∈SP,1≤p.v):=Lib.hid (fun p hp=>(Zw hsok p (by rw[←hsp];exact hp)).1);have hSPl:SP.length=sn:=hspl.1;have hsn16:sn≤16:=hspl.2.2;have hgl:b.G.length=b.gn:=HBN.out.gl;have hgm:=HBN.out.gm;clear hsok hsv hsx hsp;by_cases hg0:b.gn=0
    ·have HV:Hid (U=(t.m,9)):=Lib.hid (by rw[HU.out,HU4.out,if_pos (by rw[hgl];exact hg0)]);have hgB:((b.gn:Int)==0)=true:=by simp[hg0]
     have hgI:(b.gn:Int)≤0:=by omega
     clear hg0;go_wp2_with (first|(refine BB 11 ?_;intro z11 wz11 _ _ _)|(refine Cp ?_)|((with_reducible apply Ac);exact rfl;infer_instance;(first|(exact rfl)|(exact tg_hw _)|(exact tg_ctr _)|(exact tg_ecu _)|(exact srch_who)|exact srch_fd))|(refine Bt ?_;intro ws _ _));refine AA rfl rfl rfl (n:=50) hts rfl ⟨Aa,t,9,rfl,Lib.hid HV.out.symm,Lib.hid (HERR.out ws ((Aa (w0:=wzo) (w:=w7)).chg.mono (T:=only zo) (fun _ _ h=>h.elim)|>.trans (inferInstance:Ch (only zo) w7 ws).out (fun _ _ h=>h)))⟩
    have hgB:((b.gn:Int)==0)=false:=by simp[hg0]
    by_cases hg16:16<b.gn
    ·have HV:Hid (U=(t.m,2)):=Lib.hid (by rw[HU.out,HU4.out,if_neg (by rw[hgl];exact hg0),if_pos (by rw[hgl];exact hg16)]);have hgI:16<(b.gn:Int):=by omega
     clear hg0;go_wp2_with (first|(refine BB 11 ?_;intro z11 wz11 _ _ _)|(refine Cp ?_)|((with_reducible apply Ac);exact rfl;infer_instance;(first|(exact rfl)|(exact tg_hw _)|(exact tg_ctr _)|(exact tg_ecu _)|(exact srch_who)|exact srch_fd))|(refine Bt ?_;intro ws _ _));refine AA rfl rfl rfl (n:=50) hts rfl ⟨Aa,t,2,rfl,Lib.hid HV.out.symm,Lib.hid (HERR.out ws ((Aa (w0:=wzo) (w:=w7)).chg.mono (T:=only zo) (fun _ _ h=>h.elim)|>.trans (inferInstance:Ch (only zo) w7 ws).out (fun _ _ h=>h)))⟩
    have hgI: ¬16<(b.gn:Int):=by omega
    have HU5:=HU4.out;rw[if_neg (by rw[hgl];exact hg0),if_neg (by rw[hgl];exact hg16)] at HU5;have HU6:=Lib.hid HU5;clear hg0 HU5;go_wp2_with (first|(refine BB 11 ?_;intro z11 wz11 _ _ _)|((with_reducible apply Ac);exact rfl;infer_instance;(first|(exact rfl)|(exact tg_hw _)|(exact tg_ctr _)|(exact tg_ecu _)|(exact srch_who)|exact srch_fd))|(refine Bt ?_;intro ws _ _));have hzt8:HB ws zt 42 (Fy t).toArray :=inferInstance;have hzb8:HB ws zb 60 (Ki b).toArray :=inferInstance;have hzo8:HB ws zo 42 (Fy (SV 0 0 DJ)).toArray :=inferInstance;have hz88:HB ws z8 33 (BA v1 x1 K1).toArray :=inferInstance;have hz108:HB ws z10 36 tm.arr:=inferInstance;have hz118:HB ws z11 39 #[.int .i64 sv, .int .i64 sx, .slice SA sn sc]:=inferInstance;have hbz:zt<ws.heap.size∧zb<ws.heap.size∧zo<ws.heap.size∧z8<ws.heap.size∧z10<ws.heap.size∧z11<ws.heap.size:=⟨hzt8.out.lt,hzb8.out.lt,hzo8.out.lt,hz88.out.lt,hz108.out.lt,hz118.out.lt⟩;have hbz7:zo<w5.heap.size:=Nat.lt_of_lt_of_le hzol st5.chg.size;obtain⟨wl,hwb⟩: ∃wl:World,wl=ws:=⟨_,rfl⟩;subst hwb;have n7b:Nw w7 wl:=inferInstance;have n5b:Nw w5 wl:=inferInstance;have n0b:Nw wzo wl:=inferInstance;have nwb:Nw w wl:=inferInstance;have HKb:=Lib.hid (fun k hk=>(⟨BN.nw (w0:=w5) (w:=wl) (hKs1.out k hk).1,(hKs1.out k hk).2⟩:BN wl k∧KC O1 k.A (cellsOf k.l)));have HSb:Hid (Rd wl SA (cellsOf SP)):=Lib.hid (hsr.out.later n7b.out);have hszb:wzo.heap.size≤wl.heap.size:=n0b.out.size;obtain⟨r3,hr3⟩: ∃r3,r3=BU (v1,x1,K1.map KR.m) 3:=⟨_,rfl⟩;rw[←hr3,←HSP.out.1] at HU6;have HR3:=Lib.hid hr3;clear hr3 hzt7 hzb7 hzo7 hz87 hz107 n57 n07 n56 n06 HU4;go_loopw [12,13] (fun lv iv wr=>∃(k cap:Nat) (l:List Ea) (G:Option Addr),lv= .slice G k cap∧iv= .int .i64 (k:Int)∧k≤b.gn∧k≤cap∧Ag Ab wl wr∧HO wr 66 5 G k cap (cellsOf l)∧Aj wl G∧HB wr zt 42 (Fy t).toArray ∧HB wr zb 60 (Ki b).toArray ∧HB wr zo 42 (Fy (SV 0 0 DJ)).toArray ∧HB wr z8 33 (BA v1 x1 K1).toArray ∧HB wr z10 36 tm.arr∧HB wr z11 39 #[.int .i64 sv, .int .i64 sx, .slice SA sn sc]∧Hid (l.length=k)∧Hid (∀y∈l,FH (fun q=>(GP wl q∧q<wr.heap.size)∧¬An G q) wr y)∧Hid (GQ r3 SP now [] b.G=GQ r3 SP now (l.map Ea.k) (b.G.drop k))) (fun _ iv _=>b.gn -(intOf iv).toNat)
    case atStart=>exact⟨0,0,[],none,rfl,rfl,Nat.zero_le _,Nat.le_refl _,Aa,⟨Cm.nil _ _ _⟩,Ck _,hzt8,hzb8,hzo8,hz88,hz108,hz118,Lib.hid rfl,Lib.hid (fun y hy=>by cases hy),Lib.hid rfl⟩
    case round=>
     clear hzt8 hzb8 hzo8 hz88 hz108 hz118;obtain⟨k,cap,l,G,rfl,rfl,hk,hkc,st,hO,hG,hzt,hzb,hzo,hz8,hz10,hz11,hlk,hTS,HD⟩:=hrel;have nbr:Nw wl wr:=⟨st.chg⟩;have nr:Nw w wr:=⟨nwb.out.trans st.chg (fun _ _ h=>h)⟩;have hll:l.length=k:=hlk.out;have hszr:wl.heap.size≤wr.heap.size:=nbr.out.size;have hrG:HR wr b.GA (cellsOf b.G):=nr.hrR HBN.out.gr;have hGlt: ∀ad,G=some ad→ad.block<wr.heap.size:=fun ad e=>hO.out.lt e
     by_cases hlt:k<b.gn
     ·have hltI:(k:Int)<b.gn:=by omega
      have hkl:k<b.G.length:=by omega
      have hEI:=Lib.hid (HBN.out.ge _ (BD b.G k hkl));have hSr:HR wr SA (cellsOf SP):=nbr.hrR HSb.out;have hrl:HR wr G (cellsOf l):=⟨hO.out.rd⟩;have hKr:Hid (∀k∈K1,BN wr k):=Lib.hid (fun k hk=>BN.nw (w0:=wl) (HKb.out k hk).1);go_wp2_with (first|(refine WH 70 5 hzb (Afp _) ?_));refine Ah (Ab) (by kernel_rfl) (fun wd _ _=> ?_);refine' tk 0 _ rfl (by kernel_rfl) (by kernel_rfl) (by kernel_rfl) (fun _ _ _ h=>h) (yo (by rfl) fun w' _=> ?_) inferInstance ?_;rotate_left
      ·((apply Ix);exact rfl;infer_instance;infer_instance;exact hl1)
      try simp only[Act.put,sA,sB,sC]
      refine' tk 1 _ rfl (by kernel_rfl) (by kernel_rfl) (by kernel_rfl) (fun _ _ _ h=>h) (yo (by rfl) fun w' _=> ?_) inferInstance ?_;rotate_left
      ·((apply Ix);exact rfl;infer_instance;infer_instance;exact rfl)
      try simp only[Act.put,sA,sB,sC]
      refine YS 2 ?_;refine YS 3 ?_;refine IS 4 5 (Afp _) ?_;refine YS 5 ?_;refine' tk 6 _ rfl (by kernel_rfl) (by kernel_rfl) (by kernel_rfl) (fun _ _ _ h=>h) (yo (by rfl) fun w' _=> ?_) inferInstance ?_;rotate_left
      ·((apply(JX (α:=Em) (t:=54)));exact rfl;exact rfl;infer_instance;infer_instance;exact hgl;exact rfl;(decide);exact hlt)
      try simp only[Act.put,sA,sB,sC]
      refine' tk 7 _ rfl (by kernel_rfl) (by kernel_rfl) (by kernel_rfl) (fun _ _ _ h=>h) (yo (by rfl) fun w' _=> ?_) inferInstance ?_;rotate_left
      ·((apply(OP (α:=Em) (k:=k) (n:=2)));infer_instance;exact rfl;infer_instance;exact rfl;(decide);exact hkl)
      try simp only[Act.put,sA,sB,sC]
      refine YS 8 ?_;refine wpAnyH_ready (rs:=[9,13]) (by kernel_rfl) (by simp) (AllReadyH.cons rfl (fun K_ hK_=> ?_) (AllReadyH.cons rfl (fun K_ hK_=> ?_) AllReadyH.nil))
      focus
       go_simp;refine(Pg (O:=fun q=>(GP wl q∧q<wr.heap.size)∧¬An G q) v1 x1 K1 sv sx (sp:=SP) (l:=l) (gt b.G k) now h41 (fun k hk=>BN.nw (w0:=wr) (hKr.out k hk)) hSPl (by omega) HPOS.out (fun y hy=>(hTS.out y hy).chg (Aa (w0:=wr)).chg (fun _ h=>h.elim)) hll (by omega) (Cc.nw (w0:=w) hEI.out)).mono ?_;rintro e w8 ⟨st8,x,err4,rfl,hx,hxi⟩;have hxs:(Af.enc x).toArray.size =5:=rfl;have hxo:=AY x;refine Yz hK_ ?_;clear hK_ K_;refine YS 10 ?_;refine YS 11 ?_;refine YS 12 ?_;refine Yh 13 fun K_ hK_=> ?_
       (refine BB 14 ?_;intro zx wzx _ _ _)
       refine Yn hK_ ?_;clear hK_ K_;refine Yh 14 fun K_ hK_=> ?_
       (refine Bt ?_;intro ws _ _)
       refine Ym hK_ ?_;clear hK_ K_;refine YS 15 ?_;refine Yd ?_
      rotate_left 1
      focus
       refine Yq ?_
       (refine BB 14 ?_;intro zx wzx _ _ _)
       refine Yn hK_ ?_;clear hK_ K_;refine Yg 9 fun K_ hK_=> ?_
       go_simp;refine(Pg (O:=fun q=>(GP wl q∧q<wr.heap.size)∧¬An G q) v1 x1 K1 sv sx (sp:=SP) (l:=l) (gt b.G k) now h41 (fun k hk=>BN.nw (w0:=wr) (hKr.out k hk)) hSPl (by omega) HPOS.out (fun y hy=>(hTS.out y hy).chg (Aa (w0:=wr)).chg (fun _ h=>h.elim)) hll (by omega) (Cc.nw (w0:=w) hEI.out)).mono ?_;rintro e w8 ⟨st8,x,err4,rfl,hx,hxi⟩;have hxs:(Af.enc x).toArray.size =5:=rfl;have hxo:=AY x;refine Yz hK_ ?_;clear hK_ K_;refine YS 10 ?_;refine YS 11 ?_;refine YS 12 ?_;refine Yh 14 fun K_ hK_=> ?_
       (refine Bt ?_;intro ws _ _)
       refine Ym hK_ ?_;clear hK_ K_;refine YS 15 ?_;refine Yd ?_
      rotate_left 1
      all_goals
       have hO8:HO ws 66 5 G k cap (cellsOf l):=inferInstance;have hzt8:HB ws zt 42 (Fy t).toArray :=inferInstance;have hzb8:HB ws zb 60 (Ki b).toArray :=inferInstance;have hzo8:HB ws zo 42 (Fy (SV 0 0 DJ)).toArray :=inferInstance;have hz88:HB ws z8 33 (BA v1 x1 K1).toArray :=inferInstance;have hz108:HB ws z10 36 tm.arr:=inferInstance;have hz118:HB ws z11 39 #[.int .i64 sv, .int .i64 sx, .slice SA sn sc]:=inferInstance;have hx8:HB ws zx 66 (Af.enc x).toArray :=inferInstance;have nrs:Nw wr ws:=inferInstance;have HXS:Hid (FH (GP wr) ws x):=Lib.hid (by
        first
         |exact(FH.passN hxi.out).mono (Ac7 wr _)
         |exact(FH.passZ (z:=zx) hxi.out).mono (Ac7 wr _))
       have nzs:Nw wzo ws:=⟨(n0b.out.trans nbr.out (fun _ _ h=>h)).trans nrs.out (fun _ _ h=>h)⟩;have HTSS:Hid (∀y∈l,FH (fun q=>(GP wl q∧q<wr.heap.size)∧¬An G q) ws y):=Lib.hid (fun y hy=>(hTS.out y hy).chg nrs.out (fun _ h=>h.elim));have nbs:Nw wl ws:=⟨nbr.out.trans nrs.out (fun _ _ h=>h)⟩;have HDX:Hid (GQ r3 SP now [] b.G=if err4=0 then GQ r3 SP now (l.map Ea.k++[UQ (gt b.G k).m]) (b.G.drop (k+1)) else(l.map Ea.k,err4)):=Lib.hid (by
        rw[HD.out,Zv _ _ _ _ _ _ hkl,HR3.out,←hx.out.1])
       clear hzt hzb hzo hz8 hz10 hz11 hO hrl hrG hSr;by_cases he4:err4=0
       ·have HXK:Hid (x.k=UQ (gt b.G k).m):=Lib.hid (hx.out.2 he4);have HD2:Hid (GQ r3 SP now [] b.G=GQ r3 SP now ((l++[x]).map Ea.k) (b.G.drop (k+1))):=Lib.hid (by
         rw[HDX.out,if_pos he4,List.map_append,←HXK.out];rfl)
        subst he4;have kb1:=Af2 x;have og: ∀z,z<wl.heap.size→As (An G) z:=fun z hz=>⟨fun⟨ad,e,h⟩=>by have:=hG.out ad e;omega⟩
        have ot1:=og zt hbz.1;have ot2:=og zb hbz.2.1;have ot3:=og zo hbz.2.2.1;have ot4:=og z8 hbz.2.2.2.1;have ot5:=og z10 hbz.2.2.2.2.1;have ot6:=og z11 hbz.2.2.2.2.2;have agb:Cn wl (An G):=⟨fun q ⟨ad,e,h⟩=>by have:=hG.out ad e;omega⟩;clear og;go_wp2_with (first|(refine BM 94 (kb1 _) ?_;intro zy wb _ _ _)|((with_reducible apply(Bb (α:=Ea)));exact rfl;exact rfl;infer_instance;infer_instance;exact HB.cells inferInstance;exact rfl;exact rfl;omega;(decide);(decide);intro A2 c2 wa _ hOa hG2 hcap2)|(refine Cp ?_));have hcA:Au (An G) ws wa:=(inferInstance:Ch (An G) ws wa).out;have hszs:wr.heap.size≤ws.heap.size:=nrs.out.size;have hsza:ws.heap.size≤wa.heap.size:=hcA.size;have hszy:ws.heap.size≤wb.heap.size:=(inferInstance:Ay ws wb).out;have hA2:Aj wl A2:=GC hG2 hG (by omega);have hA2o: ∀q,q<ws.heap.size→¬An G q→¬An A2 q:=fun q h1 h2 ⟨ad,e,h⟩=>by
         rcases hG2.out with h3|h3
         ·exact h2 ⟨ad,by rw[←h3];exact e,h⟩
         rw[h3] at e;injection e with e
         subst e;have h':wb.heap.size=q:=h;omega
        refine⟨⟨k+1,c2,l++[x],A2,rfl,by go_num,by omega,hcap2,Aa,hOa,hA2,inferInstance,inferInstance,inferInstance,inferInstance,inferInstance,inferInstance,Lib.hid (by rw[List.length_append,hll];rfl),Lib.hid (fun y hy=> ?_),HD2⟩,by simp[intOf];omega⟩;rcases List.mem_append.1 hy with h|h
        ·exact((HTSS.out y h).chg hcA (fun q h1 h2=>h2.2 h1)).mono (fun q h1=>⟨⟨h1.1.1,by have:=h1.1.2;omega⟩,hA2o q (by have:=h1.1.2;omega) h1.2⟩)
        rw[List.mem_singleton.1 h];refine((HXS.out.lt).chg hcA (fun q ⟨ad,e,h1⟩ h2=> ?_)).mono (fun q h1=>⟨⟨?_,by have:=h1.2;omega⟩,hA2o q h1.2 (fun⟨ad,e,h3⟩=> ?_)⟩)
        ·have h3:=hGlt ad e;have h4:wr.heap.size≤q:=h2.1;omega
        ·have h4:wr.heap.size≤q:=h1.1;exact Nat.le_trans hszr h4
        have h4:=hGlt ad e;have h5:wr.heap.size≤q:=h1.1;omega
       have HV:Hid (U=(t.m,err4)):=Lib.hid (by
         rw[HU.out,HU6.out,HDX.out,if_neg he4];show(if err4=0 then _ else(t.m,err4))=_;rw[if_neg he4])
       have heI:(err4 !=0)=true:=by simp[he4]
       have heJ:err4<0∨0<err4:=by omega
       clear he4;obtain⟨we,hwe⟩: ∃we:World,we=ws:=⟨_,rfl⟩;subst hwe;go_wp2_with (first|(refine Cp ?_)|(refine Bt ?_;intro ws _ _));refine AA rfl rfl rfl (n:=50) hts rfl ⟨Aa,t,err4,rfl,Lib.hid HV.out.symm,Lib.hid (HERR.out ws ((Aa (w0:=wzo) (w:=we)).chg.mono (T:=only zo) (fun _ _ h=>h.elim)|>.trans (inferInstance:Ch (only zo) we ws).out (fun _ _ h=>h)))⟩
     have hltI: ¬(k:Int)<b.gn:=by omega
     have hTG:Hid (GQ r3 SP now [] b.G=(l.map Ea.k,0)):=Lib.hid (by rw[HD.out,List.drop_of_length_le (by omega),GQ]);obtain⟨t',ht'⟩: ∃t':Jf,t'=⟨v1,x1,K1,true,tm,sv,sx,SA,sn,sc,SP,G,k,cap,l⟩:=⟨_,rfl⟩;have kb5:=Af0 v1 x1 K1 true tm sv sx SA sn sc SP G k cap l h41;rw[←ht'] at kb5;have hts':=Ft t' (by rw[ht'];exact h41);have hto':=Hj t';have HV:Hid (U=(t'.m,0)):=Lib.hid (by
      rw[HU.out,HU6.out,hTG.out];show(if(0:Int)=0 then _ else _)=_;rw[if_pos rfl,ht',←HSP.out.2.1,←HSP.out.2.2];show _=((⟨(v1,x1,K1.map KR.m),true,tm.v,tm.e,tm.s,tm.h,sv,sx,SP,l.map Ea.k⟩:Zu),(0:Int));rw[HTE.out])
     have HGr:=Lib.hid hO.out.rd;have HT':=Lib.hid ht';clear ht';go_wp2_with (first|((with_reducible apply(Bu (dst:=some 96)));(with_reducible apply BP);exact rfl;exact hz8;infer_instance;exact hl1)|((with_reducible apply(Bu (dst:=some 97)));(with_reducible apply BP);exact rfl;exact hz10;infer_instance;exact Ip _)|((with_reducible apply(Bu (dst:=some 98)));(with_reducible apply BP);exact rfl;exact hz11;infer_instance;exact rfl)|(refine Ji (kb5 _) ?_)|((with_reducible apply Ac);exact rfl;infer_instance;(first|(exact rfl)|(exact tg_hw _)|(exact tg_ctr _)|(exact tg_ecu _)|(exact srch_who)|exact srch_fd))|(refine Bt ?_;intro ws _ _));have hcz:Au (only zo) wr ws:=(inferInstance:Ch (only zo) wr ws).out;have hsn7:w.heap.size≤w5.heap.size:=(n0.out.trans st5.chg (fun _ _ h=>h)).size;refine AA rfl rfl rfl (n:=50) hts' rfl ⟨Aa,t',0,rfl,Lib.hid HV.out.symm,Lib.hid ?_⟩;rw[HT'.out];refine⟨h41,fun q hq=>BN.chgO (BN.nw (w0:=wl) (HKb.out q hq).1) (HKb.out q hq).2 hcz HO1z.out,fun q hq=>(HKb.out q hq).2.mono HO1n.out,(HSb.out.later nbr.out).chg hcz (fun _ ad e h=> ?_),hSPl,hspl.2.1,by show sn≤1000;omega,KC.newA hSA5 (fun y h=> .inr (Nat.le_trans hsn7 h)),HGr.out.chg hcz (fun _ ad e h=> ?_),hll,hkc,by show k≤1000;omega,KC.newA hG (fun y h=> .inr (by have:=nwb.out.size;omega)),fun y hy=>((hTS.out y hy).chg hcz (fun q h1 h2=> ?_)).mono (fun q h=> .inr (by have h9:wl.heap.size≤q:=h.1.1;have:=nwb.out.size;omega)),fun _=>HPOS.out⟩
     ·have h':ad.block=zo:=h;have h1:=hSA5.out ad e;have h2:=hbz7;omega
     ·have h':ad.block=zo:=h;have h1:=hG.out ad e;have h2:=hbz.2.2.1;omega
     have h':q=zo:=h1;have h3:wl.heap.size≤q:=h2.1.1;have h4:=hbz.2.2.1;omega
   have HV:Hid (U=(t.m,err3)):=Lib.hid (by
     rw[HU.out];exact Agy HR1.out HT2.out HT3.out he3)
   have heI:(err3 !=0)=true:=by simp[he3]
   have heJ:err3<0∨0<err3:=by omega
   clear he3;go_wp2_with (first|(refine BB 11 ?_;intro z11 wz11 _ _ _)|(refine Cp ?_)|(refine Bt ?_;intro ws _ _));refine AA rfl rfl rfl (n:=50) hts rfl ⟨Aa,t,err3,rfl,Lib.hid HV.out.symm,Lib.hid (HERR.out ws ((Aa (w0:=wzo) (w:=w7)).chg.mono (T:=only zo) (fun _ _ h=>h.elim)|>.trans (inferInstance:Ch (only zo) w7 ws).out (fun _ _ h=>h)))⟩
  have HV:Hid (U=(t.m,err2)):=Lib.hid (by
    rw[HU.out];exact Agx HR1.out htm.out.1.symm he2)
  have heI:(err2 !=0)=true:=by simp[he2]
  have heJ:err2<0∨0<err2:=by omega
  clear he2;go_wp2_with (first|(refine BB 10 ?_;intro z10 wz10 _ _ _)|(refine Cp ?_)|(refine Bt ?_;intro ws _ _));refine AA rfl rfl rfl (n:=50) hts rfl ⟨Aa,t,err2,rfl,Lib.hid HV.out.symm,Lib.hid (HERR.out ws ((Aa (w0:=wzo) (w:=w6)).chg.mono (T:=only zo) (fun _ _ h=>h.elim)|>.trans (inferInstance:Ch (only zo) w6 ws).out (fun _ _ h=>h)))⟩
 have HV:Hid (U=(t.m,err1)):=Lib.hid (by
   rw[HU.out];exact Agw HR1.out he1)
 have heI:(err1 !=0)=true:=by simp[he1]
 have heJ:err1<0∨0<err1:=by omega
 clear he1;go_wp2_with (first|(refine BB 8 ?_;intro z8 wz8 _ _ _)|(refine Cp ?_)|(refine Bt ?_;intro ws _ _));refine AA rfl rfl rfl (n:=50) hts rfl ⟨Aa,t,err1,rfl,Lib.hid HV.out.symm,Lib.hid (HERR.out ws ((Aa (w0:=wzo) (w:=w5)).chg.mono (T:=only zo) (fun _ _ h=>h.elim)|>.trans (inferInstance:Ch (only zo) w5 ws).out (fun _ _ h=>h)))⟩
end Go.Proofs.YtjjhceeookpieaaGreat
end
