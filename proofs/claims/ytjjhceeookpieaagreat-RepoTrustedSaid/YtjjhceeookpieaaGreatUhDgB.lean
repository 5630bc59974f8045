/- UhDgB, UhDgRS, UhMkR, UhMkN -/
import Derived.Test.YtjjhceeookpieaaGreatUhDig
import Derived.Test.YtjjhceeookpieaaGreatUhOcEl
import Derived.StillTailTactics
section
set_option maxRecDepth 100000
set_option maxHeartbeats 1600000
open Go Go.RowKit
namespace Go.Proofs.YtjjhceeookpieaaGreat
theorem Vs (w:World):Calls Tryz.prog 149 #[] w fun e w'=>e= .returned (.agg (AK Ec))∧Hid (Au Ab w w'):=by
 go_enter Tryz.func149,Tryz.ntmps149;go_wp2_with (first|(refine IU rfl 153 _ rfl (AK Ec) (by kernel_rfl) ?_)|(refine wpList_store_row rfl 153 _ _ rfl w.heap.size (AK Ec) rfl rfl 153 _ (heap_alloc_new w _) (by kernel_rfl) (by kernel_rfl) (EM _) ?_));refine bodyPost_ret (v:= .agg (AK Ec)) (results_cell_row rfl _ _ w.heap.size 153 (AK Ec) (0,0) _ rfl ((AT.new w _ _).row_ _) Tryz.underlying153 rfl (by kernel_rfl)) rfl ⟨rfl, ?_⟩;exact((Au.refl _ _).alloc _).setRow (fun h=>by omega) _
theorem NU (A:Option Addr) (c gk:Nat) (p:List UInt8) (v r8:V8) (w:World) (hv:v.ok) (hr:Rd w A (bs p)) (hp:p.length=64) (hk:AT w gk 153 (AK Ec)) (hr8:Hid (r8=Ru v p)):
    Calls Tryz.prog 150 #[.agg (AK v.l), .slice A 64 c, .pointer (some ⟨gk,0,none⟩)] w fun e w'=>e= .returned (.agg (AK r8.l))∧Hid (Au Ab w w'):=by
 have HR:=Lib.hid hr;have HP:=Lib.hid hp;have HV:=Lib.hid hv;have HKK:=Lib.hid hk;clear hr hp hv hk;go_enter Tryz.func150,Tryz.ntmps150;go_wp2_with fail;obtain⟨bk0,hbk0⟩: ∃z,z=w.heap.size:=⟨_,rfl⟩;obtain⟨bk1,hbk1⟩: ∃z,z=bk0+1:=⟨_,rfl⟩;obtain⟨bk2,hbk2⟩: ∃z,z=bk0+2:=⟨_,rfl⟩;rw[←hbk0];rw[show bk0+1+1=bk2 from hbk2.symm,←hbk1];obtain⟨w1,hw1⟩: ∃w1,w1=((w.alloc (.cells (AK v.l) 155)).alloc (.cells (AK (List.replicate 8 0)) 155)).alloc (.cells (AK (Cq [])) 153):=⟨_,rfl⟩;have hzero:(((w.alloc (.cells (AK v.l) 155)).alloc (.cells (AK (List.replicate 8 0)) 155)).alloc (.cells (AK (Cq [])) 153))=w1:=hw1.symm;have B0:Hid (AT w1 bk0 155 (AK v.l)):=Lib.hid (by rw[hw1,hbk0];exact((AT.new w _ _).alloc _).alloc _);have B1:Hid (AT w1 bk1 155 (AK (List.replicate 8 0))):=Lib.hid (by rw[hw1,hbk1,hbk0];exact(AT.new1 w _ _ _).alloc _);have B2:Hid (AT w1 bk2 153 (AK (Cq []))):=Lib.hid (by
  rw[hw1,hbk2,hbk0];have h:=AT.new1 (w.alloc (.cells (AK v.l) 155)) (.cells (AK (List.replicate 8 0)) 155) 153 (AK (Cq []));simpa using h)
 have HC1:Hid (Au Ab w w1):=Lib.hid (by rw[hw1];exact(((Au.refl _ _).alloc _).alloc _).alloc _);have HRW:Hid (Rd w1 A (bs p)):=Lib.hid (HR.out.later HC1.out);have HAP:Hid (Dx (fun k=>k=bk2) A (bs p)):=Lib.hid (HR.out.apart (fun k hk=>by omega));have hgk0:gk<bk0:=by rw[hbk0];exact HKK.out.lt
 have HK1:Hid (AT w1 gk 153 (AK Ec)):=Lib.hid (HKK.out.chg HC1.out (fun h=>h));have hbks:bk1<bk2∧bk0<bk2∧bk0<bk1∧bk2<w1.heap.size:=by
  refine⟨by omega,by omega,by omega, ?_⟩;exact B2.out.lt
 have HZ0:=Lib.hid hbk0;change Code.wp _ _ _ _ (((w.alloc (.cells (AK v.l) 155)).alloc (.cells (AK (List.replicate 8 0)) 155)).alloc (.cells (AK (Cq [])) 153));rw[hzero];clear hzero hw1 hbk0 hbk1 hbk2;obtain⟨hbk12,hbk02,hbk01,hbk2w⟩:=hbks;go_loopw [8] (fun t wr=>∃k:Nat,k≤16∧t= .int .i64 k∧AT wr bk2 153 (AK (Cq (De p k)))∧Au (fun k=>k=bk2) w1 wr) (fun t _=>16 -(intOf t).toNat)
 case atStart=>exact⟨0,Nat.zero_le _,rfl,B2.out,Au.refl _ _⟩
 case round=>
  obtain⟨k,hk,rfl,h1,h3⟩:=hrel;have H1:=Lib.hid h1;have H3:=Lib.hid h3;clear h1 h3;by_cases hlt:k<16
  ·have e1:(k:Int)<16:=by omega
   have hcell: ∀j,j<64→∃ad,A=some ad∧wr.cell? (ad.add j)=some (.int .u8 ((p.getD j 0).toNat :Int)):=fun j hj=>by
    obtain⟨ad,b,h1,h2,h3⟩:=(HRW.out.chg H3.out HAP.out).byte (k:=j) (by have:=HP.out;omega);refine⟨ad,h1, ?_⟩;rw[h3,List.getD_eq_getElem?_getD,h2];rfl
   obtain⟨ad,rfl,c0⟩:=hcell (4*k) (by omega);obtain⟨_,e,c1⟩:=hcell (4*k+1) (by omega);injection e with e
   subst e;obtain⟨_,e,c2⟩:=hcell (4*k+2) (by omega);injection e with e
   subst e;obtain⟨_,e,c3⟩:=hcell (4*k+3) (by omega);injection e with e
   subst e;have b0:=(p.getD (4*k) 0).toNat_lt;have b1:=(p.getD (4*k+1) 0).toNat_lt;have b2:=(p.getD (4*k+2) 0).toNat_lt;have b3:=(p.getD (4*k+3) 0).toNat_lt;have hw4:MO p k=(p.getD (4*k) 0).toNat *16777216+(p.getD (4*k+1) 0).toNat *65536+(p.getD (4*k+2) 0).toNat *256+(p.getD (4*k+3) 0).toNat :=rfl;generalize(p.getD (4*k) 0).toNat =x0 at*;generalize(p.getD (4*k+1) 0).toNat =x1 at*;generalize(p.getD (4*k+2) 0).toNat =x2 at*;generalize(p.getD (4*k+3) 0).toNat =x3 at*;have HW:=Lib.hid hw4;have hlen:(De p k).length =k:=Jn p k;have hcz:wr.cell? ⟨bk2,k,none⟩=some (.int .u32 ((Cq (De p k)).getD k 0:Nat)):=by
    rw[H1.out.cell];exact CZ _ _ (by rw[Gz _ (by omega)];omega)
   have hfz:wr.frozen? ⟨bk2,k,none⟩=false:=H1.out.frozen k;obtain⟨j0,hj0⟩: ∃j,j=4*k:=⟨_,rfl⟩;obtain⟨j1,hj1⟩: ∃j,j=4*k+1:=⟨_,rfl⟩;obtain⟨j2,hj2⟩: ∃j,j=4*k+2:=⟨_,rfl⟩;obtain⟨j3,hj3⟩: ∃j,j=4*k+3:=⟨_,rfl⟩;rw[←hj0] at c0;rw[←hj1] at c1;rw[←hj2] at c2;rw[←hj3] at c3;have r0:IntKind.i64.wrap (4*(k:Int))=(j0:Int):=by rw[IntWalk.i64_in _ (by omega)];omega
   have r1:IntKind.i64.wrap ((j0:Int)+1)=(j1:Int):=by rw[IntWalk.i64_in _ (by omega)];omega
   have r2:IntKind.i64.wrap ((j0:Int)+2)=(j2:Int):=by rw[IntWalk.i64_in _ (by omega)];omega
   have r3:IntKind.i64.wrap ((j0:Int)+3)=(j3:Int):=by rw[IntWalk.i64_in _ (by omega)];omega
   have hor:=NX x0 x1 x2 x3 (by omega) (by omega) (by omega) (by omega);rw[←hw4] at hor;have hwl:=NV p k;obtain⟨z3,hz3⟩: ∃z,z=MO p k:=⟨_,rfl⟩;rw[←hz3] at hor hwl;obtain⟨y0,hy0⟩: ∃y,y=x0*16777216:=⟨_,rfl⟩;obtain⟨y1,hy1⟩: ∃y,y=x1*65536:=⟨_,rfl⟩;obtain⟨y2,hy2⟩: ∃y,y=x2*256:=⟨_,rfl⟩;have v0:IntKind.u32.wrap (x0:Int)=(x0:Int):=by rw[Bi];omega
   have v1:IntKind.u32.wrap (x1:Int)=(x1:Int):=by rw[Bi];omega
   have v2:IntKind.u32.wrap (x2:Int)=(x2:Int):=by rw[Bi];omega
   have v3:IntKind.u32.wrap (x3:Int)=(x3:Int):=by rw[Bi];omega
   have u0:IntKind.u32.wrap ((x0:Int)*16777216)=(y0:Int):=by rw[Bi];omega
   have u1:IntKind.u32.wrap ((x1:Int)*65536)=(y1:Int):=by rw[Bi];omega
   have u2:IntKind.u32.wrap ((x2:Int)*256)=(y2:Int):=by rw[Bi];omega
   rw[←hy0,←hy1,←hy2] at hor;obtain⟨z1,hz1⟩: ∃z,z=y0|||y1:=⟨_,rfl⟩
   obtain⟨z2,hz2⟩: ∃z,z=z1|||y2:=⟨_,rfl⟩
   have l1:z1<2^32:=by rw[hz1];exact Nat.or_lt_two_pow (by omega) (by omega)
   have l2:z2<2^32:=by rw[hz2];exact Nat.or_lt_two_pow (by omega) (by omega)
   have t1:=EZ y0 y1 z1 hz1.symm (by omega) (by omega);have t2:=EZ z1 y2 z2 hz2.symm (by omega) (by omega);have t3:=EZ z2 x3 z3 (by rw[hz2,hz1];exact hor) (by omega) (by omega);have HZ:=Lib.hid hz3;have HN:=Lib.hid (H1.out.set_ k (.int .u32 (z3:Int)));have HC:=Lib.hid (H3.out.setCell (p:=⟨bk2,k,none⟩) (fun _=>rfl) (.int .u32 (z3:Int)));rw[Hz] at HN;have hps:(Cq (De p k)).set k z3=Cq (De p (k+1)):=by
    rw[Lk,←hz3];have:=JP (De p k) z3 (by omega);rwa[hlen] at this
   rw[hps] at HN;have g0:(j0:Int)<64:=by omega
   have g4:(k:Int)<64:=by omega
   have g1:(j1:Int)<64:=by omega
   have g2:(j2:Int)<64:=by omega
   have g3:(j3:Int)<64:=by omega
   clear hw4 hlen hcell hj0 hj1 hj2 hj3 hor hz3 hy0 hy1 hy2 hz1 hz2 hps;go_wp2_with fail
   go_still_tail 35,(by kernel_rfl)
   change wpList _ _ _ _ _ wr.drew;go_wp2_with fail;exact⟨⟨k+1,by omega,by go_num,HN.out,HC.out.drew⟩,by simp[intOf];omega⟩
  have e1:(16:Int)≤k:=by omega
  obtain rfl:k=16:=by omega
  have H1':Hid (AT wr bk2 153 (AK (Cq (Bc p 0)))):=H1;clear H1 hk hlt;go_wp2_with fail;go_loopw [9,10,11] (fun t _ _ wr=>∃k:Nat,k≤48∧t= .int .i64 ((16+k:Nat):Int)∧AT wr bk2 153 (AK (Cq (Bc p k)))∧Au (fun k=>k=bk2) w1 wr) (fun t _ _ _=>64 -(intOf t).toNat)
  case atStart=>exact⟨0,Nat.zero_le _,rfl,H1'.out,H3.out⟩
  case round=>
   obtain⟨k,hk,rfl,h1,h3⟩:=hrel;have H1:=Lib.hid h1;have H3:=Lib.hid h3;clear h1 h3;have hlen:(Bc p k).length =16+k:=EG p k;obtain⟨n,hn⟩: ∃n,n=16+k:=⟨_,rfl⟩;rw[←hn];have hn16:16≤n:=by omega
   by_cases hlt:n<64
   ·have e1:(n:Int)<64:=by omega
    have hcell: ∀j,j<n→wr.cell? ⟨bk2,j,none⟩=some (.int .u32 ((Bc p k).getD j 0:Nat)):=fun j hj=>by
     rw[H1.out.cell,CZ _ _ (by rw[Gz _ (by omega)];omega),Qv _ _ (by omega)]
    have hlt32: ∀j,(Bc p k).getD j 0<4294967296:=fun j=>Ha (Ll p k) j
    have hnw:Lj (Bc p k) n=Bd (Bd (Bd ((Bc p k).getD (n -16) 0) (Tl ((Bc p k).getD (n -15) 0))) ((Bc p k).getD (n -7) 0)) (Tm ((Bc p k).getD (n -2) 0)):=rfl;have hsc:Bc p (k+1)=Bc p k++[Lj (Bc p k) n]:=by rw[hn];rfl
    obtain⟨i16,hi16⟩: ∃i,i=n -16:=⟨_,rfl⟩;obtain⟨i15,hi15⟩: ∃i,i=n -15:=⟨_,rfl⟩;obtain⟨i7,hi7⟩: ∃i,i=n -7:=⟨_,rfl⟩;obtain⟨i2,hi2⟩: ∃i,i=n -2:=⟨_,rfl⟩;rw[←hi16,←hi15,←hi7,←hi2] at hnw;have c16:=hcell i16 (by omega);have c15:=hcell i15 (by omega);have c7:=hcell i7 (by omega);have c2:=hcell i2 (by omega);have l16:=hlt32 i16;have l15:=hlt32 i15;have l7:=hlt32 i7;have l2:=hlt32 i2;generalize(Bc p k).getD i16 0=x16 at*;generalize(Bc p k).getD i15 0=x15 at*;generalize(Bc p k).getD i7 0=x7 at*;generalize(Bc p k).getD i2 0=x2 at*;have r16:IntKind.i64.wrap ((n:Int) -16)=(i16:Int):=by rw[IntWalk.i64_in _ (by omega)];omega
    have r15:IntKind.i64.wrap ((n:Int) -15)=(i15:Int):=by rw[IntWalk.i64_in _ (by omega)];omega
    have r7:IntKind.i64.wrap ((n:Int) -7)=(i7:Int):=by rw[IntWalk.i64_in _ (by omega)];omega
    have r2:IntKind.i64.wrap ((n:Int) -2)=(i2:Int):=by rw[IntWalk.i64_in _ (by omega)];omega
    have g16:(i16:Int)<64:=by omega
    have g15:(i15:Int)<64:=by omega
    have g7:(i7:Int)<64:=by omega
    have g2:(i2:Int)<64:=by omega
    have hcz:wr.cell? ⟨bk2,n,none⟩=some (.int .u32 ((Cq (Bc p k)).getD n 0:Nat)):=by
     rw[H1.out.cell];exact CZ _ _ (by rw[Gz _ (by omega)];omega)
    have hfz:wr.frozen? ⟨bk2,n,none⟩=false:=H1.out.frozen n;have HNW:=Lib.hid hnw;have HSC:=Lib.hid hsc;have HNN:=Lib.hid hn;clear hnw hsc hn hcell hlt32 hi16 hi15 hi7 hi2 hlen;obtain⟨xa,hxa⟩: ∃z,z=CL 7 x15^^^CL 18 x15:=⟨_,rfl⟩;obtain⟨xb,hxb⟩: ∃z,z=CL 17 x2^^^CL 19 x2:=⟨_,rfl⟩;obtain⟨s0,hs0⟩: ∃z,z=Tl x15:=⟨_,rfl⟩;obtain⟨s1,hs1⟩: ∃z,z=Tm x2:=⟨_,rfl⟩;have a1:=@CI 7 x15 l15 (by decide) (by decide);have a2:=@CI 18 x15 l15 (by decide) (by decide);have a3:=@CI 17 x2 l2 (by decide) (by decide);have a4:=@CI 19 x2 l2 (by decide) (by decide);have a5:xa<4294967296:=by rw[hxa];exact Hl a1 a2
    have a6:xb<4294967296:=by rw[hxb];exact Hl a3 a4
    have q1:=Ba _ _ xa hxa a1 a2;have q1':bits .xor .u32 ((CL (Int.toNat 7) x15:Nat):Int) ((CL (Int.toNat 18) x15:Nat):Int)=xa:=q1;have q2:=Ba xa (x15/8) s0 (by rw[hs0,hxa];rfl) a5 (by omega);have q3:=Ba _ _ xb hxb a3 a4;have q3':bits .xor .u32 ((CL (Int.toNat 17) x2:Nat):Int) ((CL (Int.toNat 19) x2:Nat):Int)=xb:=q3;have q4:=Ba xb (x2/1024) s1 (by rw[hs1,hxb];rfl) a6 (by omega);rw[show((x15/8:Nat):Int)=(x15:Int)/8 from rfl] at q2;rw[show((x2/1024:Nat):Int)=(x2:Int)/1024 from rfl] at q4;obtain⟨t1,ht1⟩: ∃z,z=Bd x16 s0:=⟨_,rfl⟩;obtain⟨t2,ht2⟩: ∃z,z=Bd t1 x7:=⟨_,rfl⟩;obtain⟨t3,ht3⟩: ∃z,z=Bd t2 s1:=⟨_,rfl⟩;have p1:=Bj x16 s0 t1 ht1;have p2:=Bj t1 x7 t2 ht2;have p3:=Bj t2 s1 t3 ht3;have HT:Hid (t3=Lj (Bc p k) n):=Lib.hid (by rw[HNW.out,ht3,ht2,ht1,hs0,hs1]);clear hxa hxb hs0 hs1 ht1 ht2 ht3;have HN:=Lib.hid (H1.out.set_ n (.int .u32 (t3:Int)));have HC:=Lib.hid (H3.out.setCell (p:=⟨bk2,n,none⟩) (fun _=>rfl) (.int .u32 (t3:Int)));rw[Hz,show(Cq (Bc p k)).set n t3=Cq (Bc p (k+1)) by
     rw[HSC.out,HT.out];have:=JP (Bc p k) (Lj (Bc p k) n) (by rw[EG];have:=HNN.out;omega);rwa[EG,←HNN.out] at this] at HN
    go_wp2_with fail;refine wp_region_still_tail 29 (by kernel_rfl) (by kernel_rfl) ?_;simp only[List.take_succ_cons,List.take_zero,List.drop_succ_cons,List.drop_zero]
    repeat (first|still_step|still_call (Ln _ _ _ (by decide) (by decide) l15)|still_call (Ln _ _ _ (by decide) (by decide) l2))
    refine wpStill_nil ?_;change wpList _ _ _ _ _ wr.drew;go_wp2_with fail;refine⟨?_,by simp[intOf];omega⟩
    (repeat apply Exists.intro);exact⟨⟨k+1,by have h:=HNN.out;omega,by have h:=HNN.out;congr 1;omega,HN.out,HC.out.drew⟩,rfl⟩
   have e1:(64:Int)≤n:=by omega
   obtain rfl:k=48:=by omega
   have h64:(Bc p 48).length =64:=EG p 48;rw[NW _ h64] at H1;obtain⟨ws,hws⟩: ∃ws,ws=Bc p 48:=⟨_,rfl⟩;rw[←hws] at H1 h64;have HWS:=Lib.hid hws;have HWL:=Lib.hid h64;have hi8:=Lib.hid (show(Tryz.prog.info? 155).map (·.size)=some 8 by kernel_rfl);have hl8:=Lib.hid (show∀u:V8,(AK u.l).size =8 from fun u=>by simp[FC,V8.l]);have B0':Hid (AT wr bk0 155 (AK v.l)):=Lib.hid (B0.out.chg H3.out (fun h=>by have h':bk0=bk2:=h;omega));have B1':Hid (AT wr bk1 155 (AK (List.replicate 8 0))):=Lib.hid (B1.out.chg H3.out (fun h=>by have h':bk1=bk2:=h;omega));have K1':Hid (AT wr gk 153 (AK Ec)):=Lib.hid (HK1.out.chg H3.out (fun h=>by have h':gk=bk2:=h;omega));have HCH:Hid (Au Ab w wr):=Lib.hid (HC1.out.step H3.out (fun k hk=>by have h':k=bk2:=hk;have:=HZ0.out;omega));clear hn hlen h64 hws;go_wp2_with (first|(refine wpList_load_row rfl 155 _ rfl bk0 rfl 155 _ (0,0) _ B0'.out Tryz.underlying155 rfl (by rw[hl8.out];exact hi8.out) ?_)|(refine wpList_store_row rfl 155 _ _ rfl wr.heap.size (AK v.l) rfl rfl 155 _ (heap_alloc_new wr _) (by rw[hl8.out];exact hi8.out) (by rw[hl8.out];rfl) (EM _) ?_));rw[World.setRow_alloc_new];obtain⟨w3,hw3⟩: ∃w3,w3=wr.alloc (.cells (AK v.l) 155):=⟨_,rfl⟩;obtain⟨bk3,hbk3⟩: ∃z,z=wr.heap.size:=⟨_,rfl⟩;rw[←hw3,←hbk3];have C0:Hid (AT w3 bk0 155 (AK v.l)):=Lib.hid (by rw[hw3];exact B0'.out.alloc _);have C1:Hid (AT w3 bk1 155 (AK (List.replicate 8 0))):=Lib.hid (by rw[hw3];exact B1'.out.alloc _);have C2:Hid (AT w3 bk2 153 (AK ws)):=Lib.hid (by rw[hw3];exact H1.out.alloc _);have C3:Hid (AT w3 bk3 155 (AK v.l)):=Lib.hid (by rw[hw3,hbk3];exact AT.new wr _ _);have CK:Hid (AT w3 gk 153 (AK Ec)):=Lib.hid (by rw[hw3];exact K1'.out.alloc _);have CH:Hid (Au Ab w w3):=Lib.hid (by rw[hw3];exact HCH.out.alloc _);have hbk3w:bk2<bk3:=by rw[hbk3];exact H1.out.lt
   have hbk3z:w.heap.size≤bk3:=by rw[hbk3];exact HCH.out.size
   clear hw3 hbk3 H1 H3 B0' B1' K1' HCH;have HW32:Hid (∀x∈ws,x<4294967296):=Lib.hid (by rw[HWS.out];exact Ll _ _);go_loopw [13,14,15,16,17] (fun t _ _ _ _ wr=>∃(k:Nat) (u:V8),k≤64∧t= .int .i64 k∧u=V8.turn Ec ws k v∧AT wr bk3 155 (AK u.l)∧Au (fun k=>k=bk3) w3 wr) (fun t _ _ _ _ _=>64 -(intOf t).toNat)
   case atStart=>exact⟨0,v,Nat.zero_le _,rfl,rfl,C3.out,Au.refl _ _⟩
   case round=>
    obtain⟨k,u,hk,rfl,hu,h1,h3⟩:=hrel;have hok:u.ok:=by rw[hu];exact V8.ok_turn HV.out _ _ _
    have HU:=Lib.hid hu;have H1:=Lib.hid h1;have H3:=Lib.hid h3;clear hu h1 h3;by_cases hlt:k<64
    ·have e1:(k:Int)<64:=by omega
     have cw:wr.cell? ⟨bk2,k,none⟩=some (.int .u32 (ws.getD k 0:Nat)):=by
      rw[(C2.out.chg H3.out (fun h=>by have h':bk2=bk3:=h;omega)).cell];exact CZ _ _ (by have:=HWL.out;omega)
     have ck:wr.cell? ⟨gk,k,none⟩=some (.int .u32 (Ec.getD k 0:Nat)):=by
      rw[(CK.out.chg H3.out (fun h=>by have h':gk=bk3:=h;omega)).cell];exact CZ _ _ (by have:=Lm;omega)
     have hround:V8.turn Ec ws (k+1) v=u.round (Ec.getD k 0) (ws.getD k 0):=by rw[HU.out];rfl
     have lw:=Ha HW32.out k;have lk:=Ha WQ k;generalize ws.getD k 0=wk at*;generalize Ec.getD k 0=kk at*;have HRD:=Lib.hid hround;clear hround;rcases u with⟨a,b,c8,d,e,f,g',h8⟩
     obtain⟨la,lb,lc,ld,le,lf,lg,lh⟩:=hok
     dsimp only at la lb lc ld le lf lg lh⊢
     have d0:wr.cell? ⟨bk3,0,none⟩=some (.int .u32 (a:Int)):=H1.out.cell 0;have d1:wr.cell? ⟨bk3,1,none⟩=some (.int .u32 (b:Int)):=H1.out.cell 1;have d2:wr.cell? ⟨bk3,2,none⟩=some (.int .u32 (c8:Int)):=H1.out.cell 2;have d3:wr.cell? ⟨bk3,3,none⟩=some (.int .u32 (d:Int)):=H1.out.cell 3;have d4:wr.cell? ⟨bk3,4,none⟩=some (.int .u32 (e:Int)):=H1.out.cell 4;have d5:wr.cell? ⟨bk3,5,none⟩=some (.int .u32 (f:Int)):=H1.out.cell 5;have d6:wr.cell? ⟨bk3,6,none⟩=some (.int .u32 (g':Int)):=H1.out.cell 6;have d7:wr.cell? ⟨bk3,7,none⟩=some (.int .u32 (h8:Int)):=H1.out.cell 7;obtain⟨xa,hxa⟩: ∃z,z=CL 6 e^^^CL 11 e:=⟨_,rfl⟩;obtain⟨xb,hxb⟩: ∃z,z=ZW e:=⟨_,rfl⟩;have a1:=@CI 6 e le (by decide) (by decide);have a2:=@CI 11 e le (by decide) (by decide);have a3:=@CI 25 e le (by decide) (by decide);have a4:xa<4294967296:=by rw[hxa];exact Hl a1 a2
     have q1:=Ba _ _ xa hxa a1 a2;have q2:=Ba xa _ xb (by rw[hxb,hxa];rfl) a4 a3;have q1':bits .xor .u32 ((CL (Int.toNat 6) e:Nat):Int) ((CL (Int.toNat 11) e:Nat):Int)=xa:=q1;have q2':bits .xor .u32 (xa:Int) ((CL (Int.toNat 25) e:Nat):Int)=xb:=q2;obtain⟨ya,hya⟩: ∃z,z=e&&&f:=⟨_,rfl⟩;obtain⟨ne,hne⟩: ∃z,z=4294967295 -e:=⟨_,rfl⟩;obtain⟨yb,hyb⟩: ∃z,z=ne&&&g':=⟨_,rfl⟩;obtain⟨yc,hyc⟩: ∃z,z=Afy e f g':=⟨_,rfl⟩;have a5:ya<4294967296:=by rw[hya];exact Hm _ le
     have a6:ne<4294967296:=by omega
     have a7:yb<4294967296:=by rw[hyb];exact Hm _ a6
     have q3:=Dq e f ya hya le lf;have q4:=Tq e le;rw[←hne] at q4;have q5:=Dq ne g' yb hyb a6 lg;have q6:=Ba ya yb yc (by rw[hyc,hya,hyb,hne];rfl) a5 a7;obtain⟨t1,ht1⟩: ∃z,z=Bd h8 xb:=⟨_,rfl⟩;obtain⟨t2,ht2⟩: ∃z,z=Bd t1 yc:=⟨_,rfl⟩;obtain⟨t3,ht3⟩: ∃z,z=Bd t2 kk:=⟨_,rfl⟩;obtain⟨t4,ht4⟩: ∃z,z=Bd t3 wk:=⟨_,rfl⟩;have p1:=Bj h8 xb t1 ht1;have p2:=Bj t1 yc t2 ht2;have p3:=Bj t2 kk t3 ht3;have p4:=Bj t3 wk t4 ht4;have p5:((t1:Int)+(yc:Int)+(kk:Int)+(wk:Int))%4294967296=(t4:Int):=by rw[ht4,ht3,ht2];unfold Bd;omega
     have HT1:Hid (t4=V8.t1 ⟨a,b,c8,d,e,f,g',h8⟩ kk wk):=Lib.hid (by rw[ht4,ht3,ht2,ht1,hxb,hyc];rfl);have lt4:t4<4294967296:=by rw[ht4];exact DE _ _
     clear hxa hxb hya hne hyb hyc ht1 ht2 ht3 ht4;obtain⟨xc,hxc⟩: ∃z,z=CL 2 a^^^CL 13 a:=⟨_,rfl⟩;obtain⟨xd,hxd⟩: ∃z,z=ZX a:=⟨_,rfl⟩;have a1b:=@CI 2 a la (by decide) (by decide);have a2b:=@CI 13 a la (by decide) (by decide);have a3b:=@CI 22 a la (by decide) (by decide);have a8:xc<4294967296:=by rw[hxc];exact Hl a1b a2b
     have r1:=Ba _ _ xc hxc a1b a2b;have r1':bits .xor .u32 ((CL (Int.toNat 2) a:Nat):Int) ((CL (Int.toNat 13) a:Nat):Int)=xc:=r1;have r2:=Ba xc _ xd (by rw[hxd,hxc];rfl) a8 a3b;have r2':bits .xor .u32 (xc:Int) ((CL (Int.toNat 22) a:Nat):Int)=xd:=r2;obtain⟨za,hza⟩: ∃z,z=a&&&b:=⟨_,rfl⟩;obtain⟨zb,hzb⟩: ∃z,z=a&&&c8:=⟨_,rfl⟩;obtain⟨zc,hzc⟩: ∃z,z=b&&&c8:=⟨_,rfl⟩;obtain⟨zd,hzd⟩: ∃z,z=za^^^zb:=⟨_,rfl⟩;obtain⟨ze,hze⟩: ∃z,z=ZV a b c8:=⟨_,rfl⟩;have b1:za<4294967296:=by rw[hza];exact Hm _ la
     have b2:zb<4294967296:=by rw[hzb];exact Hm _ la
     have b3:zc<4294967296:=by rw[hzc];exact Hm _ lb
     have b4:zd<4294967296:=by rw[hzd];exact Hl b1 b2
     have r3:=Dq a b za hza la lb;have r4:=Dq a c8 zb hzb la lc;have r5:=Dq b c8 zc hzc lb lc;have r6:=Ba za zb zd hzd b1 b2;have r7:=Ba zd zc ze (by rw[hze,hzd,hza,hzb,hzc];rfl) b4 b3;obtain⟨u2,hu2⟩: ∃z,z=Bd xd ze:=⟨_,rfl⟩;obtain⟨na,hna⟩: ∃z,z=Bd t4 u2:=⟨_,rfl⟩;obtain⟨nd,hnd⟩: ∃z,z=Bd d t4:=⟨_,rfl⟩;have m1:=EY xd ze u2 hu2;have m1':=Bj xd ze u2 hu2;have m2:=EY t4 u2 na hna;have m2':=Bj t4 u2 na hna;have m3:=EY d t4 nd hnd;have m3':=Bj d t4 nd hnd;have HR:Hid (V8.turn Ec ws (k+1) v=⟨na,a,b,c8,nd,e,f,g'⟩):=Lib.hid (by
      rw[HRD.out,hna,hnd,hu2,hxd,hze,HT1.out];rfl)
     clear hxc hxd hza hzb hzc hzd hze hu2 hna hnd;go_wp2_with fail;refine wp_region_still_lit (by kernel_rfl) (by kernel_rfl) ?_
     repeat still_step
     refine wpStill_nil ?_;show Exit.then _ _ _ _ (World.drew wr);replace cw:(World.drew wr).cell? _=_:=cw;replace ck:(World.drew wr).cell? _=_:=ck;replace d0:(World.drew wr).cell? _=_:=d0;replace d1:(World.drew wr).cell? _=_:=d1;replace d2:(World.drew wr).cell? _=_:=d2;replace d3:(World.drew wr).cell? _=_:=d3;replace d4:(World.drew wr).cell? _=_:=d4;replace d5:(World.drew wr).cell? _=_:=d5;replace d6:(World.drew wr).cell? _=_:=d6;replace d7:(World.drew wr).cell? _=_:=d7;replace H1:Hid (AT (World.drew wr) bk3 155 (AK (V8.mk a b c8 d e f g' h8).l)):=H1;replace H3:Hid (Au (fun k=>k=bk3) w3 (World.drew wr)):=Lib.hid H3.out.drew;generalize World.drew wr=wq1 at*;go_wp2_with fail;refine wp_region_still_lit (by kernel_rfl) (by kernel_rfl) ?_
     repeat (first|still_step|still_call (Ln _ _ _ (by decide) (by decide) le))
     refine wpStill_nil ?_;show Exit.then _ _ _ _ (World.drew wq1);replace cw:(World.drew wq1).cell? _=_:=cw;replace ck:(World.drew wq1).cell? _=_:=ck;replace d0:(World.drew wq1).cell? _=_:=d0;replace d1:(World.drew wq1).cell? _=_:=d1;replace d2:(World.drew wq1).cell? _=_:=d2;replace d3:(World.drew wq1).cell? _=_:=d3;replace d4:(World.drew wq1).cell? _=_:=d4;replace d5:(World.drew wq1).cell? _=_:=d5;replace d6:(World.drew wq1).cell? _=_:=d6;replace d7:(World.drew wq1).cell? _=_:=d7;replace H1:Hid (AT (World.drew wq1) bk3 155 (AK (V8.mk a b c8 d e f g' h8).l)):=H1;replace H3:Hid (Au (fun k=>k=bk3) w3 (World.drew wq1)):=Lib.hid H3.out.drew;generalize World.drew wq1=wq2 at*;go_wp2_with fail;refine wp_region_still_lit (by kernel_rfl) (by kernel_rfl) ?_
     repeat (first|still_step|still_call (Ln _ _ _ (by decide) (by decide) la))
     refine wpStill_nil ?_;show Exit.then _ _ _ _ (World.drew wq2);replace cw:(World.drew wq2).cell? _=_:=cw;replace ck:(World.drew wq2).cell? _=_:=ck;replace d0:(World.drew wq2).cell? _=_:=d0;replace d1:(World.drew wq2).cell? _=_:=d1;replace d2:(World.drew wq2).cell? _=_:=d2;replace d3:(World.drew wq2).cell? _=_:=d3;replace d4:(World.drew wq2).cell? _=_:=d4;replace d5:(World.drew wq2).cell? _=_:=d5;replace d6:(World.drew wq2).cell? _=_:=d6;replace d7:(World.drew wq2).cell? _=_:=d7;replace H1:Hid (AT (World.drew wq2) bk3 155 (AK (V8.mk a b c8 d e f g' h8).l)):=H1;replace H3:Hid (Au (fun k=>k=bk3) w3 (World.drew wq2)):=Lib.hid H3.out.drew;generalize World.drew wq2=wq3 at*;go_wp2_with (refine wpList_store_row rfl 155 _ _ rfl bk3 (AK (V8.mk na a b c8 nd e f g').l) rfl rfl 155 _ H1.out (by rw[hl8.out];exact hi8.out) (by rw[hl8.out,hl8.out]) (EM _) ?_);exact⟨⟨k+1,⟨na,a,b,c8,nd,e,f,g'⟩,by omega,by go_num,HR.out.symm,H1.out.row_ _,H3.out.setRow (fun _=>rfl) _⟩,by simp[intOf];omega⟩
    have e1:(64:Int)≤k:=by omega
    obtain rfl:k=64:=by omega
    have D0:Hid (AT wr bk0 155 (AK v.l)):=Lib.hid (C0.out.chg H3.out (fun h=>by have h':bk0=bk3:=h;omega));have D1:Hid (AT wr bk1 155 (AK (List.replicate 8 0))):=Lib.hid (C1.out.chg H3.out (fun h=>by have h':bk1=bk3:=h;omega));have DH:Hid (Au Ab w wr):=Lib.hid (CH.out.step H3.out (fun k hk=>by have h':k=bk3:=hk;omega));have hr8':Hid ((v.add u)=r8):=Lib.hid (by rw[hr8.out,HU.out,HWS.out];rfl);have hfin:=Lib.hid (MS v u);go_wp2_with fail;go_loopw [18] (fun t wz=>∃k:Nat,k≤8∧t= .int .i64 k∧AT wz bk0 155 (AK (Fh v u k))∧AT wz bk3 155 (AK u.l)∧AT wz bk1 155 (AK (List.replicate 8 0))∧Au Ab w wz) (fun t _=>8 -(intOf t).toNat)
    case atStart=>exact⟨0,Nat.zero_le _,rfl,D0.out,H1.out,D1.out,DH.out⟩
    case round=>
     obtain⟨k,hk,rfl,h1,h2,h3,h4⟩:=hrel;have G1:=Lib.hid h1;have G2:=Lib.hid h2;have G3:=Lib.hid h3;have G4:=Lib.hid h4;clear h1 h2 h3 h4;by_cases hlt:k<8
     ·have e2:(k:Int)<8:=by omega
      have hc:wr.cell? ⟨bk0,k,none⟩=some (.int .u32 (v.l.getD k 0:Nat)):=by
       rw[G1.out.cell,CZ _ _ (by rw[MR];omega),MT _ _ _ hlt]
      have hf:wr.frozen? ⟨bk0,k,none⟩=false:=G1.out.frozen k;have hc2:wr.cell? ⟨bk3,k,none⟩=some (.int .u32 (u.l.getD k 0:Nat)):=by
       rw[G2.out.cell,CZ _ _ (by simp[V8.l];omega)]
      obtain⟨z,hz⟩: ∃z,z=Bd (v.l.getD k 0) (u.l.getD k 0):=⟨_,rfl⟩;have HN:=Lib.hid (G1.out.set_ k (.int .u32 (z:Int)));rw[Hz,hz,MU,←hz] at HN;have HN2:=Lib.hid (G2.out.far (p:=⟨bk0,k,none⟩) (by show bk3≠bk0;omega) (.int .u32 (z:Int)));have HN3:=Lib.hid (G3.out.far (p:=⟨bk0,k,none⟩) (by show bk1≠bk0;omega) (.int .u32 (z:Int)));have HC:=Lib.hid (G4.out.setCell (p:=⟨bk0,k,none⟩) (fun h=>by have h':bk0<w.heap.size:=h;have:=HZ0.out;omega) (.int .u32 (z:Int)));generalize v.l.getD k 0=x at*;generalize u.l.getD k 0=y at*;have p1:=Bj x y z hz;clear hz;go_wp2_with fail
      go_still_tail 9,(by kernel_rfl)
      change wpList _ _ _ _ _ (World.drew _);go_wp2_with fail;refine⟨?_,by simp[intOf];omega⟩
      first|exact⟨k+1,by omega,by go_num,HN.out,HN2.out,HN3.out,HC.out.drew⟩|((repeat apply Exists.intro);exact⟨⟨k+1,by omega,by go_num,HN.out,HN2.out,HN3.out,HC.out.drew⟩,rfl⟩)
     have e2:(8:Int)≤k:=by omega
     obtain rfl:k=8:=by omega
     rw[hfin.out,hr8'.out] at G1;go_wp2_with (first|(refine wpList_load_row rfl 155 _ rfl bk0 rfl 155 _ (0,0) _ G1.out Tryz.underlying155 rfl (by rw[hl8.out];exact hi8.out) ?_)|(refine wpList_store_row rfl 155 _ _ rfl bk1 (AK r8.l) rfl rfl 155 _ G3.out (by rw[hl8.out];exact hi8.out) (by rw[hl8.out];rfl) (EM _) ?_));refine bodyPost_ret (v:= .agg (AK r8.l)) (results_cell_row rfl _ _ bk1 155 _ (0,0) _ rfl (G3.out.row_ _) Tryz.underlying155 rfl (by rw[hl8.out];exact hi8.out)) rfl ⟨rfl, ?_⟩;exact G4.out.setRow (fun h=>by have:=HZ0.out;omega) _
end Go.Proofs.YtjjhceeookpieaaGreat
end
section
set_option maxRecDepth 100000
set_option maxHeartbeats 1600000
open Go Go.RowKit
namespace Go.Proofs.YtjjhceeookpieaaGreat
theorem XT (N i:Nat) (h:i<8):(Id N).take (i+1)=(Id N).take i++[UInt8.ofNat (N/2^(8*(7 -i)))]:=by
 rcases(show i=0∨i=1∨i=2∨i=3∨i=4∨i=5∨i=6∨i=7 by omega) with rfl|rfl|rfl|rfl|rfl|rfl|rfl|rfl<;>rfl
theorem XU (k:Nat):AP (k+1)=AP k++[0]:=by unfold AP;rw[List.replicate_succ']
theorem Tk (p:List UInt8):DF p=p++[128]++AP (Rv p.length)++Id (8*p.length):=rfl
theorem Jm (A:Option Addr) (n c:Nat) (p:List UInt8) (w:World) (hr:Rd w A (bs p)) (hn:p.length=n) (hn9:n≤140737488351232):
    Calls Tryz.prog 79 #[.slice A n c] w fun e w'=>e= .returned (.agg (Aw (MQ p)))∧Hid (Au Ab w w'):=by
 have HR:=Lib.hid hr;have HN:=Lib.hid hn;have HM:Hid ((bs p).length =n):=Lib.hid (by rw[Am];exact hn);have HB0:Hid (0+n≤SY):=ED (by omega);have HB1:Hid (n+1≤SY):=ED (by omega);clear hr hn;go_enter Tryz.func79,Tryz.ntmps79;go_wp2_with (at_builtin;refine Bw rfl (.tmp 11) (.tmp 12) Gk rfl (Nat.le_refl _) rfl (Qy _ _) rfl ((HR.out.alloc _).alloc _) HM (Ei p) HB0 ?_);intro A1 c1 w1 hown1 hchg1 hA1;have HRES1:Hid (AT w1 w.heap.size 23 (Aw (AP 32))):=Lib.hid (by
  have b1:AT ((w.alloc (.cells (Aw (AP 32)) 23)).alloc (.cells #[] 5)) w.heap.size 23 (Aw (AP 32)):=(AT.new w _ _).alloc _;exact b1.chg hchg1 (fun h=>by have h':w.heap.size+1=w.heap.size:=h;omega))
 have hF1:=Co.many (Co.lit1 w (.cells (Aw (AP 32)) 23)) HN.out (hchg1.mono (fun k _ h=>⟨_,rfl,h⟩)) (by rw[Nat.zero_add];exact hown1) (hA1.imp id fun e=>⟨_,e,by simp⟩);rw[Nat.zero_add,List.nil_append] at hF1;have HF1:=Lib.hid hF1;clear hF1 hown1 hchg1 hA1;go_wp2_with (at_builtin;refine Cf rfl (.tmp 13) (.tmp 14) Gk rfl (Nat.le_refl _) rfl (HF1.out.own.alloc _) rfl (Rd.lit _ [_] _) rfl HB1 ?_);intro A2 c2 w2 hown2 hchg2 hA2;have HF2:=Lib.hid (Co.one (b:=128) HF1.out hchg2 hown2 (by simpa using hA2));have HRES2:Hid (AT w2 w.heap.size 23 (Aw (AP 32))):=Lib.hid ((HRES1.out.alloc _).chg hchg2 (by
  rintro⟨ad,e,h⟩;have h1:=HF1.out.new ad e;simp at h1;omega))
 clear hown2 hchg2 hA2;obtain⟨wb,hwb⟩: ∃wb,wb=w.alloc (.cells (Aw (AP 32)) 23):=⟨_,rfl⟩;obtain⟨z0,hz0⟩: ∃z,z=w.heap.size:=⟨_,rfl⟩;have HF:Hid (Co wb w2 A2 (n+1) c2 (p++[128])):=Lib.hid (by rw[hwb];exact HF2.out);have HBN:Hid (Au Ab w wb):=Lib.hid (by rw[hwb];exact(Au.refl _ _).alloc _);have hzb:z0<wb.heap.size:=by rw[hwb,hz0];simp
 rw[←hz0] at HRES2⊢;have HZ0:=Lib.hid hz0;clear HF1 HF2 hwb hz0 HRES1;obtain⟨P,hP⟩: ∃P,P=Rv n:=⟨_,rfl⟩;have hP64:P<64:=by rw[hP];unfold Rv;omega
 have hPm:(n+1+P)%64=56:=by rw[hP];unfold Rv;omega
 have hPn: ∀j,j<P→(n+1+j)%64≠56:=fun j hj=>by rw[hP] at hj;unfold Rv at hj;omega
 have HP:=Lib.hid hP;have HPM:=Lib.hid hPm;have HPN:=Lib.hid hPn;clear hP hPm hPn;go_wp2_with fail;go_loopw [3] (fun a wr=>∃(j:Nat) (A3:Option Addr) (n3 c3:Nat),j≤P∧n3=n+1+j∧a= .slice A3 n3 c3∧Co wb wr A3 n3 c3 (p++[128]++AP j)∧AT wr z0 23 (Aw (AP 32))) (fun a _=>match a with| .slice _ l _=>n+1+P -l|_=>0)
 case atStart=>exact⟨0,A2,n+1,c2,Nat.zero_le _,rfl,rfl,by simpa[AP] using HF.out,HRES2.out⟩
 case round=>
  obtain⟨j,A3,n3,c3,hj,hn3,rfl,h1,h2⟩:=hrel;obtain⟨q,hq⟩: ∃q,q=p++[128]++AP j:=⟨_,rfl⟩;rw[←hq] at h1;have HQ:=Lib.hid hq;have H1:=Lib.hid h1;have H2:=Lib.hid h2;have HN3:=Lib.hid hn3;clear h1 h2 hq;have hn39:n3≤140737488351532:=by omega
  by_cases hlt:j<P
  ·have e1:(((n3:Int)%64)!=56)=true:=by
     have h:=HPN.out j hlt;rw[←hn3] at h;rw[bne_iff_ne];omega
   have HBJ:Hid (n3+1≤SY):=ED (by omega);clear hn3;go_wp2_with (at_builtin;refine Cf rfl (.tmp 20) (.tmp 21) Gk rfl (Nat.le_refl _) rfl (H1.out.own.alloc _) rfl (Rd.lit _ [_] _) rfl HBJ ?_);intro A4 c4 w4 hown4 hchg4 hA4;have HF4:=Lib.hid (Co.one (b:=0) H1.out hchg4 hown4 (by simpa using hA4));have HRES4:Hid (AT w4 z0 23 (Aw (AP 32))):=Lib.hid ((H2.out.alloc _).chg hchg4 (by
    rintro⟨ad,e,h⟩;have h1:=H1.out.new ad e;omega))
   clear hown4 hchg4 hA4;go_wp2_with fail;refine⟨⟨j+1,A4,n3+1,c4,by omega,by have:=HN3.out;omega,rfl,by rw[XU,←List.append_assoc,←HQ.out];exact HF4.out,HRES4.out⟩, ?_⟩;show n+1+P -(n3+1)<n+1+P -n3;have:=HN3.out;omega
  have e1:(((n3:Int)%64)!=56)=false:=by
    have h:=HPM.out;rw[bne_eq_false_iff_eq];omega
  obtain rfl:j=P:=by omega
  clear hn3;obtain⟨N,hN⟩: ∃N,N=8*n:=⟨_,rfl⟩;have hNq:(n:Int)*8=(N:Int):=by omega
  have HNN:=Lib.hid hN;have hN9:N≤1125899906809856:=by omega
  have hn3b:n3≤140737488351322:=by have:=HN3.out;omega
  clear hN;go_wp2_with fail;go_loopw [3,5] (fun a t wr=>∃(i:Nat) (A3:Option Addr) (n4 c3:Nat),i≤8∧n4=n3+(8 -i)∧a= .slice A3 n4 c3∧t= .int .i64 ((i:Int) -1)∧Co wb wr A3 n4 c3 (q++(Id N).take (8 -i))∧AT wr z0 23 (Aw (AP 32))) (fun _ t _=>(intOf t+1).toNat)
  case atStart=>exact⟨8,A3,n3,c3,Nat.le_refl _,rfl,rfl,rfl,by simpa using H1.out,H2.out⟩
  case round=>
   obtain⟨i,A4,n4,c4,hi,hn4,rfl,rfl,h1,h2⟩:=hrel;have G2:=Lib.hid h2;have HN4:=Lib.hid hn4;have hn49:n4≤140737488351532:=by omega
   clear h2 hn4;rcases i with _|i
   ·have G1:Hid (Co wb wr A4 n4 c4 (q++Id N)):=Lib.hid (by rwa[show(Id N).take (8 -0)=Id N from List.take_of_length_le (by simp[Id])] at h1);clear h1;have e2:(((0:Nat):Int) -1)= -1:=rfl;rw[e2];clear e2;have hpad:q++Id N=DF p:=by
     rw[HQ.out,HNN.out,Tk,HN.out,←HP.out]
    rw[hpad] at G1;have HL:Hid (n4=64*((n+72)/64)):=Lib.hid (by rw[G1.out.len,Vv,HN.out]);have HPL:Hid ((DF p).length =n4):=Lib.hid G1.out.len.symm;have hle4:=G1.out.le;clear hpad;go_wp2_with fail;refine(Vs _).mono ?_;rintro e w6 ⟨rfl,hc6⟩;have hl8:=Lib.hid (show∀u:V8,(AK u.l).size =8 from fun u=>by simp[FC,V8.l]);have hi8:=Lib.hid (show(Tryz.prog.info? 155).map (·.size)=some 8 by kernel_rfl);have hi60:=Lib.hid (show(Tryz.prog.info? 153).map (·.size)=some 64 by kernel_rfl);have hi25:=Lib.hid (show(Tryz.prog.info? 23).map (·.size)=some 32 by kernel_rfl);have hlk:=Lib.hid (show(AK Ec).size =64 by rw[FC,Lm]);go_wp2_with (refine wpList_store_row rfl 153 _ _ rfl w6.heap.size (AK Ec) rfl rfl 153 _ (heap_alloc_new w6 _) (by rw[hlk.out];exact hi60.out) (by rw[hlk.out];rfl) (EM _) ?_);rw[World.setRow_alloc_new];obtain⟨w7,hw7⟩: ∃w7,w7=w6.alloc (.cells (AK Ec) 153):=⟨_,rfl⟩;obtain⟨zs,hzs⟩: ∃z,z=wr.heap.size:=⟨_,rfl⟩;obtain⟨zk,hzk⟩: ∃z,z=w6.heap.size:=⟨_,rfl⟩;rw[←hw7,←hzs,←hzk];have hA4: ∀ad,A4=some ad→ad.block<zs:=fun ad e=>by rw[hzs];exact G1.out.own.lt e
    have hz0s:z0<zs:=by rw[hzs];exact G2.out.lt
    have hc6':Au Ab wr w6:=((Au.refl _ _).alloc _).step hc6.out (fun _ h=>h.elim);have hzsk:zs<zk:=by
     rw[hzs,hzk];have h:=hc6.out.size;simp at h;omega
    have RM:Hid (Rd w7 A4 (bs (DF p))):=Lib.hid (by rw[hw7];exact(G1.out.rd.later hc6').alloc _);have BS:Hid (AT w7 zs 155 (AK Dl.l)):=Lib.hid (by
     rw[hw7,hzs];have h:AT (wr.alloc (.cells (AK Dl.l) 155)) wr.heap.size 155 (AK Dl.l):=AT.new wr _ _;exact(h.chg hc6.out (fun h=>h)).alloc _)
    have BK:Hid (AT w7 zk 153 (AK Ec)):=Lib.hid (by rw[hw7,hzk];exact AT.new w6 _ _);have BR:Hid (AT w7 z0 23 (Aw (AP 32))):=Lib.hid (by rw[hw7];exact(G2.out.chg hc6' (fun h=>h)).alloc _);have CH:Hid (Au Ab w w7):=Lib.hid (by rw[hw7];exact(((HBN.out.step G1.out.chg (fun _ h=>h.elim)).step hc6' (fun _ h=>h.elim)).alloc _));have hzkw:zk<w7.heap.size:=BK.out.lt;have HA4:=Lib.hid hA4;clear hw7 hzs hzk hc6 hc6' hA4 G1 G2;obtain⟨Q,hQ⟩: ∃Q,Q=(n+72)/64:=⟨_,rfl⟩;have hn4Q:n4=64*Q:=by rw[hQ];exact HL.out
    have HQQ:=Lib.hid hQ;have HNQ:=Lib.hid hn4Q;clear hQ hn4Q;go_loopw [8] (fun t wr=>∃(b:Nat) (u:V8),b≤Q∧t= .int .i64 ((64*b:Nat):Int)∧u=Bz b Dl (DF p)∧AT wr zs 155 (AK u.l)∧Au (fun k=>k=zs) w7 wr) (fun t _=>n4 -(intOf t).toNat)
    case atStart=>exact⟨0,Dl,Nat.zero_le _,rfl,rfl,BS.out,Au.refl _ _⟩
    case round=>
     obtain⟨b,u,hbQ,rfl,hu,h1,h3⟩:=hrel;have hok:u.ok:=by rw[hu];exact EX FD _ _
     have HU:=Lib.hid hu;have K1:=Lib.hid h1;have K3:=Lib.hid h3;have HOK:=Lib.hid hok;clear hu h1 h3 hok;obtain⟨a0,ha0⟩: ∃a,a=64*b:=⟨_,rfl⟩;rw[←ha0];have HA0:=Lib.hid ha0;by_cases hlt:b<Q
     ·have hnq:=HNQ.out;have e1:(a0:Int)<n4:=by omega
      obtain⟨a1,ha1⟩: ∃a,a=a0+64:=⟨_,rfl⟩;have r1:IntKind.i64.wrap ((a0:Int)+64)=(a1:Int):=by rw[IntWalk.i64_in _ (by omega)];omega
      have g1:a0≤a1:=by omega
      have g2:a1≤n4:=by omega
      have g3:a1≤c4:=by omega
      have g4: ¬c4=a0:=by omega
      have h64:a1 -a0=64:=by omega
      have H64:=Lib.hid h64;have HA1:=Lib.hid ha1;obtain⟨r8,hr8⟩: ∃r8,r8=Ru u (((DF p).drop a0).take 64):=⟨_,rfl⟩;have HR8:=Lib.hid hr8;have hrow:Rd wr (A4.map (·.add a0)) (bs (((DF p).drop a0).take 64)):=by
       have h:=((RM.out.chg K3.out (fun _ ad e h=>by have h1:=HA4.out ad e;have h2:ad.block=zs:=h;omega)).drop a0).take 64;rwa[show((bs (DF p)).drop a0).take 64=bs (((DF p).drop a0).take 64) by rw[show(bs (DF p)).drop a0=bs ((DF p).drop a0) from List.map_drop.symm,It]] at h
      have HROW:=Lib.hid hrow;have HRL:Hid ((((DF p).drop a0).take 64).length =64):=Lib.hid (by
       have h:=HPL.out;simp;omega)
      have HNXT:Hid (r8=Bz (b+1) Dl (DF p)):=Lib.hid (by rw[hr8,MP,←HU.out,ha0]);clear hnq ha1 h64 hr8 hrow ha0;rcases u with⟨ua,ub,uc,ud,ue,uf,ug,uh⟩
      have d0:wr.cell? ⟨zs,0,none⟩=some (.int .u32 (ua:Int)):=K1.out.cell 0;have d1:wr.cell? ⟨zs,1,none⟩=some (.int .u32 (ub:Int)):=K1.out.cell 1;have d2:wr.cell? ⟨zs,2,none⟩=some (.int .u32 (uc:Int)):=K1.out.cell 2;have d3:wr.cell? ⟨zs,3,none⟩=some (.int .u32 (ud:Int)):=K1.out.cell 3;have d4:wr.cell? ⟨zs,4,none⟩=some (.int .u32 (ue:Int)):=K1.out.cell 4;have d5:wr.cell? ⟨zs,5,none⟩=some (.int .u32 (uf:Int)):=K1.out.cell 5;have d6:wr.cell? ⟨zs,6,none⟩=some (.int .u32 (ug:Int)):=K1.out.cell 6;have d7:wr.cell? ⟨zs,7,none⟩=some (.int .u32 (uh:Int)):=K1.out.cell 7;go_wp2_with fail
      go_still_tail 6,(by kernel_rfl)
      change wpList _ _ _ _ _ (World.drew wr);replace K1:Hid (AT (World.drew wr) zs 155 (AK (V8.mk ua ub uc ud ue uf ug uh).l)):=K1;replace K3:Hid (Au (fun k=>k=zs) w7 (World.drew wr)):=Lib.hid K3.out.drew;replace HROW:Hid (Rd (World.drew wr) (A4.map (·.add a0)) (bs (((DF p).drop a0).take 64))):=HROW;clear d0 d1 d2 d3 d4 d5 d6 d7;generalize World.drew wr=wq at*;have BKq:AT wq zk 153 (AK Ec):=BK.out.chg K3.out (fun h=>by have h':zk=zs:=h;omega);go_wp2_with fail;rw[H64.out];refine(NU (A4.map (·.add a0)) (c4 -a0) zk (((DF p).drop a0).take 64) (V8.mk ua ub uc ud ue uf ug uh) r8 _ HOK.out HROW.out HRL.out BKq HR8).mono ?_;rintro e w9 ⟨rfl,hc9⟩;have K9:Hid (AT w9 zs 155 (AK (V8.mk ua ub uc ud ue uf ug uh).l)):=Lib.hid (K1.out.chg hc9.out (fun h=>h));clear BKq;go_wp2_with (refine wpList_store_row rfl 155 _ _ rfl zs (AK r8.l) rfl rfl 155 _ K9.out (by rw[hl8.out];exact hi8.out) (by rw[hl8.out,hl8.out]) (EM _) ?_);exact⟨⟨b+1,r8,by omega,by have h1:=HA0.out;have h2:=HA1.out;congr 1;omega,HNXT.out,K9.out.row_ _,(K3.out.trans hc9.out (fun _ _ h=>h.elim)).setRow (fun _=>rfl) _⟩,by have h2:=HA1.out;simp[intOf];omega⟩
     have hnq:=HNQ.out;have e1:(n4:Int)≤a0:=by omega
     obtain rfl:b=Q:=by omega
     have hout:Ga u=MQ p:=by rw[HU.out,HQQ.out,←HN.out];rfl
     have HOUT:=Lib.hid hout;have CHW:Hid (Au Ab w wr):=Lib.hid (CH.out.step K3.out (fun k hk=>by have h':k=zs:=hk;have:=HZ0.out;omega));have BR':Hid (AT wr z0 23 (Aw (AP 32))):=Lib.hid (BR.out.chg K3.out (fun h=>by have h':z0=zs:=h;omega));obtain⟨wy,hwy⟩: ∃wy,wy=wr.alloc (.cells (Aw (Cy u 0)) 23):=⟨_,rfl⟩;obtain⟨zh,hzh⟩: ∃z,z=wr.heap.size:=⟨_,rfl⟩;have hz0h:z0<zh:=by rw[hzh];exact BR'.out.lt
     have hzsh:zs<zh:=by rw[hzh];exact K1.out.lt
     have hwle:w.heap.size≤zh:=by rw[hzh];exact CHW.out.size
     have L1:Hid (AT wy zh 23 (Aw (Cy u 0))):=Lib.hid (by rw[hwy,hzh];exact AT.new wr _ _);have L2:Hid (AT wy z0 23 (Aw (AP 32))):=Lib.hid (by rw[hwy];exact BR'.out.alloc _);have L3:Hid (AT wy zs 155 (AK u.l)):=Lib.hid (by rw[hwy];exact K1.out.alloc _);have L4:Hid (Au Ab w wy):=Lib.hid (by rw[hwy];exact CHW.out.alloc _);have hz25:(wr.alloc (.cells (Aw (AP 32)) 23))=wy:=by rw[hwy];rfl
     clear hnq hout;go_wp2_with fail;rw[←hzh];change Code.wp _ _ _ _ (wr.alloc (.cells (Aw (AP 32)) 23));rw[hz25];clear hz25 hwy hzh;go_loopw [10] (fun t wz=>∃k:Nat,k≤32∧t= .int .i64 k∧AT wz zh 23 (Aw (Cy u k))∧AT wz z0 23 (Aw (AP 32))∧AT wz zs 155 (AK u.l)∧Au Ab w wz) (fun t _=>32 -(intOf t).toNat)
     case atStart=>exact⟨0,Nat.zero_le _,rfl,L1.out,L2.out,L3.out,L4.out⟩
     case round=>
      obtain⟨k,hk,rfl,h1,h2,h3,h4⟩:=hrel;have M1:=Lib.hid h1;have M2:=Lib.hid h2;have M3:=Lib.hid h3;have M4:=Lib.hid h4;clear h1 h2 h3 h4;by_cases hlt:k<32
      ·have e2:(k:Int)<32:=by omega
       have hj:k/4<8:=by omega
       have hcell:wr.cell? ⟨zs,k/4,none⟩=some (.int .u32 (u.l.getD (k/4) 0:Nat)):=by
        rw[M3.out.cell];exact CZ u.l (k/4) hj
       have hx:u.l.getD (k/4) 0<4294967296:=Ha (by
        obtain⟨a1,a2,a3,a4,a5,a6,a7,a8⟩:=HOK.out;intro x hx;simp only[V8.l,List.mem_cons,List.not_mem_nil,or_false] at hx;rcases hx with rfl|rfl|rfl|rfl|rfl|rfl|rfl|rfl<;>assumption) _
       obtain⟨x,hxe⟩: ∃x,x=u.l.getD (k/4) 0:=⟨_,rfl⟩;rw[←hxe] at hcell hx;have HX:=Lib.hid hxe;clear hxe;have hcz:wr.cell? ⟨zh,k,none⟩=some (GV ((Cy u k).getD k 0)):=by
        rw[M1.out.cell];have:k<(Cy u k).length :=by simp[Cy];omega
        exact JM _ _ this
       have hfz:wr.frozen? ⟨zh,k,none⟩=false:=M1.out.frozen k;have hval:Hid (Value.int .u8 ((x:Int)/2^(24 -8*(k%4))%256)=GV (Dz u k)):=Lib.hid (by
        unfold Dz GV;rw[←HX.out];simp)
       have HP1:=Lib.hid (M1.out.set_ k (GV (Dz u k)));have HP2:=Lib.hid (M2.out.far (p:=⟨zh,k,none⟩) (by show z0≠zh;omega) (GV (Dz u k)));have HP3:=Lib.hid (M3.out.far (p:=⟨zh,k,none⟩) (by show zs≠zh;omega) (GV (Dz u k)));have HP4:=Lib.hid (M4.out.setCell (p:=⟨zh,k,none⟩) (fun h=>by have h':zh<w.heap.size:=h;omega) (GV (Dz u k)));rw[MW] at HP1;go_wp2_with fail;rw[hval.out];exact⟨⟨k+1,by omega,by go_num,HP1.out,HP2.out,HP3.out,HP4.out⟩,by simp[intOf];omega⟩
      have e2:(32:Int)≤k:=by omega
      obtain rfl:k=32:=by omega
      rw[MV,HOUT.out] at M1;have HLN:Hid ((Aw (MQ p)).size =32):=Lib.hid (by rw[Dk,JO]);go_wp2_with (first|(refine wpList_load_row rfl 23 _ rfl zh rfl 23 _ (0,0) _ M1.out Tryz.underlying23 rfl (by rw[HLN.out];exact hi25.out) ?_)|(refine wpList_store_row rfl 23 _ _ rfl z0 _ rfl rfl 23 _ M2.out (by rw[HLN.out];exact hi25.out) (by rw[HLN.out];rfl) (Ek _) ?_));refine bodyPost_ret (v:= .agg (Aw (MQ p))) (results_cell_row rfl _ _ z0 23 _ (0,0) _ rfl (M2.out.row_ _) Tryz.underlying23 rfl (by rw[HLN.out];exact hi25.out)) rfl ⟨rfl, ?_⟩;exact M4.out.setRow (fun h=>by have:=HZ0.out;omega) _
   have e2:(((i+1:Nat):Int) -1)=(i:Int):=by omega
   rw[e2];clear e2;have e3:(0:Int)≤i:=by omega
   have e4:(i:Int)≤7:=by omega
   obtain⟨x,hx⟩: ∃x,x=q++(Id N).take (8 -(i+1)):=⟨_,rfl⟩;rw[←hx] at h1;have G1:=Lib.hid h1;have hnx:q++(Id N).take (8 -i)=x++[UInt8.ofNat (N/2^(8*i))]:=by
    rw[hx,List.append_assoc,show 8 -i=(8 -(i+1))+1 by omega,XT N _ (by omega),show 7 -(8 -(i+1))=i by omega]
   have HNX:=Lib.hid hnx;have hbv:Hid (Value.int .u8 ((N:Int)/2^(8*i)%256)= .int .u8 ((UInt8.ofNat (N/2^(8*i))).toNat :Int)):=Lib.hid (by simp);have HBJ:Hid (n4+1≤SY):=ED (by omega);clear h1 hx hnx;go_wp2_with (at_builtin;refine Cf rfl (.tmp 31) (.tmp 38) Gk rfl (Nat.le_refl _) rfl (G1.out.own.alloc _) rfl (Rd.lit _ [_] _) rfl HBJ ?_);intro A5 c5 w5 hown5 hchg5 hA5;rw[hbv.out] at hown5;have HF5:=Lib.hid (Co.one G1.out hchg5 hown5 (by simpa using hA5));have HRES5:Hid (AT w5 z0 23 (Aw (AP 32))):=Lib.hid ((G2.out.alloc _).chg hchg5 (by
    rintro⟨ad,e,h⟩;have h1:=G1.out.new ad e;omega))
   clear hown5 hchg5 hA5;go_wp2_with fail;refine⟨⟨i,A5,n4+1,c5,by omega,by have:=HN4.out;omega,rfl,rfl,by rw[HNX.out];exact HF5.out,HRES5.out⟩, ?_⟩;simp[intOf]
theorem Km (A:Option Addr) (n c:Nat) (p:List UInt8) (w:World) (hr:Rd w A (bs p)) (hn:p.length=n) (hn9:n≤1000000000):
    Calls Tryz.prog 79 #[.slice A n c] w fun e w'=>e= .returned (.agg (Aw (MQ p)))∧Hid (Au Ab w w'):=Jm A n c p w hr hn (by omega)
end Go.Proofs.YtjjhceeookpieaaGreat
end
section
set_option maxRecDepth 100000
set_option maxHeartbeats 800000
open Go Go.RowKit
namespace Go.Proofs.YtjjhceeookpieaaGreat
def Ho (a b:List UInt8):List UInt8:=MQ (3::(a++b))
theorem KJ (a b:List UInt8):(Ho a b).length =32:=JO _
theorem PG (xs ys:List UInt8) (w:World) (hx:xs.length=32) (hy:ys.length=32):
    Calls Tryz.prog 158 #[.agg (Aw xs), .agg (Aw ys)] w fun e w'=>e= .returned (.agg (Aw (Ho xs ys)))∧Hid (Au Ab w w'):=by
 have HX:=Lib.hid hx;have HY:=Lib.hid hy;have HI25:=Lib.hid (show(Tryz.prog.info? 23).map (·.size)=some 32 by kernel_rfl);have HML:Hid ((Aw (Ho xs ys)).size =32):=Lib.hid (by rw[Dk,KJ]);have HXB:Hid ((bs xs).length =32):=Lib.hid (by rw[Am,hx]);have HYB:Hid ((bs ys).length =32):=Lib.hid (by rw[Am,hy]);have HB0:Hid (1+32≤SY):=ED (by decide);have HB1:Hid (33+32≤SY):=ED (by decide);clear hx hy;obtain⟨W3,hW3⟩: ∃W3,W3=((w.alloc (.cells (Aw xs) 23)).alloc (.cells (Aw ys) 23)).alloc (.cells (Aw (AP 32)) 23):=⟨_,rfl⟩;have HSZ:Hid (W3.heap.size=w.heap.size+1+1+1):=Lib.hid (by rw[hW3];simp);have BX:Hid (AT W3 w.heap.size 23 (Aw xs)):=Lib.hid (by rw[hW3];exact((AT.new w _ _).alloc _).alloc _);have BY:Hid (AT W3 (w.heap.size+1) 23 (Aw ys)):=Lib.hid (by rw[hW3];exact(AT.new1 w _ _ _).alloc _);have B0:Hid (AT W3 (w.heap.size+1+1) 23 (Aw (AP 32))):=Lib.hid (by
  have h:=AT.new1 (w.alloc (.cells (Aw xs) 23)) (.cells (Aw ys) 23) 23 (Aw (AP 32));rw[hW3];simpa using h)
 have C3:Hid (Au Ab w W3):=Lib.hid (by rw[hW3];exact(((Au.refl _ _).alloc _).alloc _).alloc _);have HOE:Hid (Cm (W3.alloc (.cells #[.int .u8 3] 5)) 5 1 (some ⟨w.heap.size+1+1+1,0,none⟩) 1 1 (bs [3])):=Lib.hid (by
  have h:=Cm.new W3 5 1 1 #[.int .u8 3] (by decide) rfl;rw[HSZ.out] at h;exact h)
 have HW3:=Lib.hid hW3;clear hW3;go_enter Tryz.func158,Tryz.ntmps158;go_wp2_with (at_builtin;change wpList _ _ _ _ _ ((((w.alloc (.cells (Aw xs) 23)).alloc (.cells (Aw ys) 23)).alloc (.cells (Aw (AP 32)) 23)).alloc (.cells #[.int .u8 3] 5));rw[←HW3.out];refine Bw rfl (.tmp 6) (.tmp 7) Gk rfl (Nat.le_refl _) rfl HOE.out rfl (Iv (BX.out.alloc _)) HXB (Ei xs) HB0 ?_);intro A5 c5 w5 hown5 hchg5 hA5;have HO5:Hid (Cm w5 5 1 A5 33 c5 (bs (3::xs))):=Lib.hid hown5;have hsz:=HSZ.out;have HC5:Hid (Au Ab w w5):=Lib.hid ((C3.out.alloc _).step hchg5 (fun x hx=>by
  have h1:w.heap.size+1+1+1=x:=hx;omega))
 have BY5:Hid (AT w5 (w.heap.size+1) 23 (Aw ys)):=Lib.hid ((BY.out.alloc _).chg hchg5 (fun h=>by
  have h1:w.heap.size+1+1+1=w.heap.size+1:=h;omega))
 have B5:Hid (AT w5 (w.heap.size+1+1) 23 (Aw (AP 32))):=Lib.hid ((B0.out.alloc _).chg hchg5 (fun h=>by
  have h1:w.heap.size+1+1+1=w.heap.size+1+1:=h;omega))
 have HZ5:Hid (∀ad,A5=some ad→w.heap.size+3≤ad.block):=Lib.hid (fun ad e=>by
  rcases hA5 with h|h
  ·rw[e] at h;injection h with h
   rw[h];exact Nat.le_refl _
  rw[e] at h;injection h with h
  rw[h,hsz];exact Nat.le_succ _)
 clear hown5 hchg5 hA5 hsz;obtain⟨z0,hz0⟩: ∃z,z=w.heap.size+1+1:=⟨_,rfl⟩;rw[←hz0] at B5⊢;obtain⟨zy,hzy⟩: ∃z,z=w.heap.size+1:=⟨_,rfl⟩;rw[←hzy] at BY5⊢;have hzw:w.heap.size≤z0:=by omega
 have hzv:z0<w.heap.size+3:=by omega
 clear hz0 hzy HOE HW3 HSZ BX BY B0 C3;go_wp2_with (at_builtin;refine Bw rfl (.tmp 9) (.tmp 10) Gk rfl (Nat.le_refl _) rfl HO5.out rfl (Iv BY5.out) HYB (Ei ys) HB1 ?_);intro A6 c6 w6 hown6 hchg6 hA6;have HO6:Hid (Cm w6 5 1 A6 (33+32) c6 (bs (3::(xs++ys)))):=Lib.hid (by rw[←List.cons_append,←EW];exact hown6);have HC6:Hid (Au Ab w w6):=Lib.hid (HC5.out.step hchg6 (fun x hx=>by
  obtain⟨ad,e,h1⟩:=hx;have h2:=HZ5.out ad e;omega))
 have B6:Hid (AT w6 z0 23 (Aw (AP 32))):=Lib.hid (B5.out.chg hchg6 (fun hx=>by
  obtain⟨ad,e,h1⟩:=hx;have h2:=HZ5.out ad e;omega))
 clear hown6 hchg6 hA6;go_wp2_with fail;refine(Km A6 (33+32) c6 (3::(xs++ys)) _ HO6.out.rd (by rw[List.length_cons,List.length_append,HX.out,HY.out]) (by decide)).mono ?_;rintro e w7 ⟨rfl,hc7⟩;have C7:=Lib.hid (HC6.out.step hc7.out (fun _ h=>h.elim));have B7:=Lib.hid (B6.out.chg hc7.out (fun h=>h));clear hc7;go_wp2_with (refine wpList_store_row rfl 23 _ _ rfl z0 (Aw (Ho xs ys)) rfl rfl 23 _ B7.out (by rw[HML.out];exact HI25.out) (by rw[HML.out];rfl) (Ek _) ?_);refine bodyPost_ret (v:= .agg (Aw (Ho xs ys))) (results_cell_row rfl _ _ z0 23 _ (0,0) _ rfl (B7.out.row_ _) Tryz.underlying23 rfl (by rw[HML.out];exact HI25.out)) rfl ⟨rfl, ?_⟩;exact C7.out.setRow (fun h=>by omega) _
end Go.Proofs.YtjjhceeookpieaaGreat
end
section
set_option maxRecDepth 100000
set_option maxHeartbeats 800000
open Go Go.RowKit
namespace Go.Proofs.YtjjhceeookpieaaGreat
theorem VK (xs ys:List UInt8) (w:World) (hx:xs.length=32) (hy:ys.length=32):
    Calls Tryz.prog 166 #[.agg (Aw xs), .agg (Aw ys)] w fun e w'=>e= .returned (.agg (Aw (Ho xs ys)))∧Hid (Au Ab w w'):=by
 have HX:=Lib.hid hx;have HY:=Lib.hid hy;have HI25:=Lib.hid (show(Tryz.prog.info? 23).map (·.size)=some 32 by kernel_rfl);have HI82:=Lib.hid (show(Tryz.prog.info? 277).map (·.size)=some 65 by kernel_rfl);have HML:Hid ((Aw (Ho xs ys)).size =32):=Lib.hid (by rw[Dk,KJ]);clear hx hy;obtain⟨W3,hW3⟩: ∃W3,W3=((w.alloc (.cells (Aw xs) 23)).alloc (.cells (Aw ys) 23)).alloc (.cells (Aw (AP 32)) 23):=⟨_,rfl⟩;have HSZ:Hid (W3.heap.size=w.heap.size+1+1+1):=Lib.hid (by rw[hW3];simp);have hz65: Tryz.zeroCells277=Aw (AP 65):=by kernel_rfl
 have hset:(Aw (AP 65)).setIfInBounds 0 (.int .u8 3)=Aw (3::AP 64):=by kernel_rfl
 have HRL:Hid ((Aw (3::AP 64)).size =65):=Lib.hid (by rw[Dk];rfl);have HROW:Hid (AT (W3.alloc (.cells (Aw (AP 65)) 277)) (w.heap.size+1+1+1) 277 (Aw (AP 65))):=Lib.hid (by
  have h:=AT.new W3 277 (Aw (AP 65));rw[HSZ.out] at h;exact h)
 have BX:Hid (AT W3 w.heap.size 23 (Aw xs)):=Lib.hid (by rw[hW3];exact((AT.new w _ _).alloc _).alloc _);have BY:Hid (AT W3 (w.heap.size+1) 23 (Aw ys)):=Lib.hid (by rw[hW3];exact(AT.new1 w _ _ _).alloc _);have B0:Hid (AT W3 (w.heap.size+1+1) 23 (Aw (AP 32))):=Lib.hid (by
  have h:=AT.new1 (w.alloc (.cells (Aw xs) 23)) (.cells (Aw ys) 23) 23 (Aw (AP 32));rw[hW3];simpa using h)
 have C3:Hid (Au Ab w W3):=Lib.hid (by rw[hW3];exact(((Au.refl _ _).alloc _).alloc _).alloc _);have HW3:=Lib.hid hW3;clear hW3;go_enter Tryz.func166,Tryz.ntmps166;go_wp2_with (change wpList _ _ _ _ _ ((((w.alloc (.cells (Aw xs) 23)).alloc (.cells (Aw ys) 23)).alloc (.cells (Aw (AP 32)) 23)).alloc (.cells (Aw (AP 65)) 277));rw[←HW3.out];refine wpList_store_row rfl 277 _ _ rfl (w.heap.size+1+1+1) (Aw (3::AP 64)) rfl rfl 277 _ HROW.out (by rw[HRL.out];exact HI82.out) (by rw[HRL.out];rfl) (Ek _) ?_);obtain⟨zx,hzx⟩: ∃z,z=w.heap.size:=⟨_,rfl⟩;obtain⟨zy,hzy⟩: ∃z,z=w.heap.size+1:=⟨_,rfl⟩;obtain⟨z0,hz0⟩: ∃z,z=w.heap.size+1+1:=⟨_,rfl⟩;obtain⟨zr,hzr⟩: ∃z,z=w.heap.size+1+1+1:=⟨_,rfl⟩;obtain⟨W4,hW4⟩: ∃W4,W4=(W3.alloc (.cells (Aw (AP 65)) 277)).setRow (w.heap.size+1+1+1) (Aw (3::AP 64)):=⟨_,rfl⟩;have BR4:Hid (AT (World.drew W4) zr 277 (Aw (3::AP 64))):=Lib.hid (by rw[hW4,hzr];exact HROW.out.row_ _);have BX4:Hid (AT (World.drew W4) zx 23 (Aw xs)):=Lib.hid (by rw[hW4,hzx];exact(BX.out.alloc _).rowFar (by omega) _);have BY4:Hid (AT (World.drew W4) zy 23 (Aw ys)):=Lib.hid (by rw[hW4,hzy];exact(BY.out.alloc _).rowFar (by omega) _);have B04:Hid (AT (World.drew W4) z0 23 (Aw (AP 32))):=Lib.hid (by rw[hW4,hz0];exact(B0.out.alloc _).rowFar (by omega) _);have C4:Hid (Au Ab w (World.drew W4)):=Lib.hid (by rw[hW4];exact((C3.out.alloc _).setRow (fun h=>by omega) _).drew);rw[←hW4,←hzr,←hz0,←hzy,←hzx];have hne:zx≠zr∧zy≠zr∧z0≠zr∧w.heap.size≤zr∧w.heap.size≤z0:=by omega
 obtain⟨n1,n2,n3,n4,n5⟩:=hne;clear hzx hzy hz0 hzr hW4 HROW BX BY B0 C3 hz65 hset HW3 HSZ;have HF1:Hid (1+32≤(3::AP 64).length):=Lib.hid (by decide)
 go_still_tail 2,(by kernel_rfl)
 change wpList _ _ _ _ _ (World.drew W4);generalize World.drew W4=w5 at*;go_wp2_with (refine Gq rfl (.tmp 7) (.tmp 8) 55 55 rfl 5 Tryz.underlying55 (by kernel_rfl) rfl rfl BR4.out (Iv BX4.out) HX (by decide) HF1 ?_);intro w6 hb6 hc6;obtain⟨R,hR⟩: ∃R,R=3::(xs++AP 32):=⟨_,rfl⟩;have BR6:Hid (AT (World.drew w6) zr 277 (Aw R)):=by
  have h:=hb6;rw[Qw,←hR] at h;exact h
 have BX6:Hid (AT (World.drew w6) zx 23 (Aw xs)):=Lib.hid (show _ from(AT.chg (S:=fun k=>k=zr) BX4.out hc6.out.drew (fun h=>n1 h)));have BY6:Hid (AT (World.drew w6) zy 23 (Aw ys)):=Lib.hid (show _ from(AT.chg (S:=fun k=>k=zr) BY4.out hc6.out.drew (fun h=>n2 h)));have B06:Hid (AT (World.drew w6) z0 23 (Aw (AP 32))):=Lib.hid (show _ from(AT.chg (S:=fun k=>k=zr) B04.out hc6.out.drew (fun h=>n3 h)));have C6:Hid (Au Ab w (World.drew w6)):=Lib.hid ((C4.out.step hc6.out (fun x hx=>by have h1:x=zr:=hx;omega)).drew);have HF2:Hid (33+32≤R.length):=Lib.hid (by rw[hR];simp[FO,HX.out]);have E1:Hid (R.take 33=3::xs):=Lib.hid (by rw[hR,List.take_succ_cons,List.take_left' HX.out]);have E2:Hid (R.drop 65=[]):=Lib.hid (by rw[hR];simp[FO,HX.out]);clear hR hb6 hc6 BR4 BX4 BY4 B04 C4;go_wp2_with fail
 go_still_tail 2,(by kernel_rfl)
 change wpList _ _ _ _ _ (World.drew w6);generalize World.drew w6=w7 at*;go_wp2_with (refine Gq rfl (.tmp 10) (.tmp 11) 55 55 rfl 5 Tryz.underlying55 (by kernel_rfl) rfl rfl BR6.out (Iv BY6.out) HY (by decide) HF2 ?_);intro w8 hb8 hc8;have BR8:Hid (AT w8 zr 277 (Aw (3::(xs++ys)))):=Lib.hid (by
  have h:=hb8.out;simp only[E1.out,E2.out,List.append_nil,List.cons_append] at h;exact h)
 have B08:Hid (AT w8 z0 23 (Aw (AP 32))):=Lib.hid (AT.chg (S:=fun k=>k=zr) B06.out hc8.out (fun h=>n3 h));have C8:Hid (Au Ab w w8):=Lib.hid (C6.out.step hc8.out (fun x hx=>by have h1:x=zr:=hx;omega));clear hb8 hc8 BR6 BX6 BY6 B06 C6;go_wp2_with fail;refine(KG (some ⟨zr,0,none⟩) 65 65 (3::(xs++ys)) _ (Iv BR8.out) (by rw[List.length_cons,List.length_append,HX.out,HY.out]) (by decide) (by decide)).mono ?_;rintro e w9 ⟨rfl,hc9⟩;have C9:=Lib.hid (C8.out.step hc9.out (fun _ h=>h.elim));have B9:=Lib.hid (B08.out.chg hc9.out (fun h=>h));clear hc9;go_wp2_with (refine wpList_store_row rfl 23 _ _ rfl z0 (Aw (Ho xs ys)) rfl rfl 23 _ B9.out (by rw[HML.out];exact HI25.out) (by rw[HML.out];rfl) (Ek _) ?_);refine bodyPost_ret (v:= .agg (Aw (Ho xs ys))) (results_cell_row rfl _ _ z0 23 _ (0,0) _ rfl (B9.out.row_ _) Tryz.underlying23 rfl (by rw[HML.out];exact HI25.out)) rfl ⟨rfl, ?_⟩;exact C9.out.setRow (fun h=>by omega) _
end Go.Proofs.YtjjhceeookpieaaGreat
end
