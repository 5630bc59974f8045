/- FwL -/
import Derived.Test.YtjjhceeookpieaaGreatUhZ
import Derived.Test.YtjjhceeookpieaaGreatUhTgL
import Derived.Test.YtjjhceeookpieaaGreatUhFwF
import Derived.Test.YtjjhceeookpieaaGreatUhTgK
import Derived.Test.YtjjhceeookpieaaGreatUhRoI
import Derived.Deep.CutBlock
set_option maxRecDepth 100000
set_option maxHeartbeats 12800000
open Go Go.RowKit
namespace Go.Proofs.YtjjhceeookpieaaGreat
theorem Ag4 (s:RS):(Dt s).1.l.length ≤s.b.length∧(Dt s).1.hw.length ≤s.b.length∧(Dt s).1.ecu.length ≤s.b.length:=by
 have h1:=RS.row_le s;have h2:=RS.num_le s.row.2;have h3:=RS.hnx_le s.row.2.num.2;have h4:=RS.row_le s.row.2.num.2.hnx;have h5:=RS.num_le s.row.2.num.2.hnx.row.2;have g1:=RS.row_1 s;have g2:=RS.row_1 s.row.2.num.2.hnx;have g3:=RS.row_1 s.row.2.num.2.hnx.row.2.num.2;refine⟨g1, ?_, ?_⟩
 ·show s.row.2.num.2.hnx.row.1.length≤_;omega
 show s.row.2.num.2.hnx.row.2.num.2.row.1.length≤_;omega
theorem Aa9 (s:RS): ∀k,∀t∈LQ Dt s k,t.l.length≤s.b.length∧t.hw.length≤s.b.length∧t.ecu.length≤s.b.length
 |0,t,ht=>by cases ht
 |k+1,t,ht=>by
  rw[LQ,List.mem_append] at ht;rcases ht with h|h
  ·exact Aa9 s k t h
  rw[List.mem_singleton.1 h];have h1:=Ag4 (Hi Dt s k);have h2:=Ka.tkS_le s k;omega
theorem Jb.lens {s:RS} {x:Pv} {s':RS} (h:Jb s x s'):x.1.length≤s.b.length∧x.2.2.1.length≤s.b.length:=by
 obtain⟨l,need,t,h1,rfl,rfl⟩:=h;have g1:=RS.row_1 s;have g2:=RS.row_1 t;have g3:=h1.le;have g4:=RS.row_le s;refine⟨g1, ?_⟩;show t.row.1.length≤_;omega
theorem Hn.lens {s:RS}: ∀{k:Nat} {l:List Pv} {s':RS},Hn Jb s k l s'→∀x∈l,x.1.length≤s.b.length∧x.2.2.1.length≤s.b.length
 |0,l,s',h,x,hx=>by rw[h.1] at hx;cases hx
 |k+1,l,s',h,x,hx=>by
  obtain⟨l',t,y,h1,h2,rfl⟩:=h;rcases List.mem_append.1 hx with h3|h3
  ·exact Hn.lens h1 x h3
  rw[List.mem_singleton.1 h3];have h4:=h2.lens;have h5:=Hn.le Jb.le h1;omega
theorem Adv (l:List UInt8) (w:World):(Instr.build 66 #[(0, .string (Al l))]).run Tryz.prog w= .ok (.agg #[.string (Al l), .int .i64 0, .int .i64 0, .slice none 0 0, .slice none 0 0]) w:=by kernel_rfl
instance Ajo (w:World) (g z:Nat) (A:Option Addr):KE w (only z) (rg3 g z A):=⟨fun _ _ h=> .inr (.inl h)⟩
theorem Jq {A:Option Addr} {n c:Nat} {b:List UInt8} {w:World} [hr:HR w A (bs b)] (hl:b.length=n) (hcap:n≤c) (hn:n≤140737488351232):
    Calls Tryz.prog 81 #[.slice A n c] w (Afi b w):=by
 obtain⟨S,hS⟩: ∃S,S=AO 4 b:=⟨_,rfl⟩;obtain⟨S1,hS1⟩: ∃x,x=S.row.2:=⟨_,rfl⟩;obtain⟨S2,hS2⟩: ∃x,x=S1.at 2:=⟨_,rfl⟩;obtain⟨S3,hS3⟩: ∃x,x=S2.num.2:=⟨_,rfl⟩;obtain⟨N,hN⟩: ∃N,N=S2.num.1:=⟨_,rfl⟩;obtain⟨NM,hNM⟩: ∃V,V=S.row.1:=⟨_,rfl⟩;obtain⟨V,hV⟩: ∃V,V=S1.num.1:=⟨_,rfl⟩;obtain⟨X,hX⟩: ∃X,X=(S1.at 1).num.1 :=⟨_,rfl⟩;have hSl:S.b.length≤140737488351232:=by
  have:=Ir 4 b;rw[←hS] at this;omega
 have hS1l:S1.b.length≤S.b.length:=by rw[hS1];exact RS.row_le _
 have hS2l:S2.b.length≤S1.b.length:=by rw[hS2];exact S1.at_le 2
 have hS3l:S3.b.length≤S2.b.length:=by rw[hS3];exact RS.num_le S2
 have hNMl:NM.length≤S.b.length:=by rw[hNM];exact RS.row_1 _
 have hM:tgM b=if Di b then(NM,(V:Int),(X:Int),Zo b,Zp b,(0:Int)) else([],0,0,[],[],2):=by
  rw[tgM,KB,JI,UI,←hS,←hNM,←hS1,←hV,←hX]
 have hRF: ∀(P:List Ad) (M:List Pv) (t s':RS),MC Dt 16 S2 P t→XZ Jb 16 t M s'→(Cv s'&&Gh NM V X P M&&decide (b=Et NM V X P M))=Di b∧(Di b=true→P=Zo b∧M=Zp b):=fun P M t s' h h2=>by
  have h1:=Adl (b:=b) (P:=P) (M:=M) (t:=t) (s':=s') (by rw[MB,←hS,←hS1,←hS2];exact h) h2;rwa[KB,JI,UI,←hS,←hNM,←hS1,←hV,←hX] at h1
 have HM:=Lib.hid hM;have HRF:=Lib.hid hRF;have HRR:=Lib.hid hr.out;have HS:=Lib.hid hS;have HNM:Hid (S.row.1=NM):=Lib.hid hNM.symm;have HV:Hid (S1.num.1=V):=Lib.hid hV.symm;have HX:Hid ((S1.at 1).num.1 =X):=Lib.hid hX.symm;have HS1:Hid (S.row.2=S1):=Lib.hid hS1.symm;have HS2:Hid (S1.at 2=S2):=Lib.hid hS2.symm;have HS3:Hid (S2.num.2=S3):=Lib.hid hS3.symm;have HN:Hid (S2.num.1=N):=Lib.hid hN.symm;have HLE:=Lib.hid hl;have kb0: ∀w,(Instr.build 66 #[]).run Tryz.prog w= .ok (.agg #[.string ⟨#[]⟩, .int .i64 0, .int .i64 0, .slice none 0 0, .slice none 0 0]) w:=fun _=>by kernel_rfl
 have kbU:=Adv NM;unfold Afi;clear hS hS1 hS2 hS3 hN hNM hV hX hM hRF;go_enter Tryz.func81,Tryz.ntmps81;go_wp2_with (first|(refine BB 2 ?_;intro zo wzo _ _ _));have hro:HR wzo A (bs b):=⟨HRR.out.later (Aa (w0:=w) (w:=wzo)).chg⟩;have hzow:w.heap.size≤zo:=Nat.le_of_eq (inferInstance:AW w zo).eq.symm;refine(FL (kind:=4) (b:=b) HLE.out hcap (by omega)).mono ?_;rintro e w5 ⟨zr,d,rfl,_,hzr,hltr,h5,hdw⟩;rw[←HS.out] at h5;have hszo:w.heap.size≤wzo.heap.size:=(inferInstance:Ay w wzo).out;have hzw:w.heap.size≤zr:=Nat.le_trans hszo hzr;have ag:Cn w (only zr):=⟨fun k h=>by have h':k=zr:=h;omega⟩;have hzol:=(inferInstance:HB wzo zo 66 #[.string ⟨#[]⟩, .int .i64 0, .int .i64 0, .slice none 0 0, .slice none 0 0]).out.lt;have ozr:As (only zr) zo:=⟨fun e=>by have e':zo=zr:=e;omega⟩;have hd5:S.b≠[]→d<w5.heap.size:=fun h=>h5.out.dlt h
 have H5:=Lib.hid h5.out;clear h5;go_wp2_with fail;refine(CM H5.out (by omega)).mono ?_;rw[HNM.out,HS1.out];rintro e w6 ⟨rfl,st6,h6⟩;have hs5:wzo.heap.size≤w5.heap.size:=(inferInstance:Ay wzo w5).out;have hs6:w5.heap.size≤w6.heap.size:=st6.chg.size;have ho6:HB w6 zo 66 #[.string ⟨#[]⟩, .int .i64 0, .int .i64 0, .slice none 0 0, .slice none 0 0]:=inferInstance;go_wp2_with (first|(refine Ji (kbU _) ?_)|(refine BB 5 ?_;intro zt wzt _ _ _)|(refine Bt ?_;intro ws _ _));have hzt:w6.heap.size≤zt:=Nat.le_of_eq (inferInstance:AW w6 zt).eq.symm;have otr:As (only zr) zt:=⟨fun e=>by have e':zt=zr:=e;omega⟩;have at_:Cn w (only zt):=⟨fun k h=>by have h':k=zt:=h;omega⟩;have oto:As (only zt) zo:=⟨fun e=>by have e':zo=zt:=e;omega⟩;have far: ∀(s:RS) (w1 w2:World),s.b.length≤S.b.length→Ag (only zt) w1 w2→Bn w1 zr d s→Bn w2 zr d s:=fun s w1 w2 hs st h=>h.chg2 st.chg (fun e=>by have e':zr=zt:=e;omega) (fun hne e=>by have e':d=zt:=e;have:=hd5 (Fx hs hne);omega)
 have ht7:HB ws zt 66 #[.string (Al NM), .int .i64 0, .int .i64 0, .slice none 0 0, .slice none 0 0]:=inferInstance;have ho7:HB ws zo 66 #[.string ⟨#[]⟩, .int .i64 0, .int .i64 0, .slice none 0 0, .slice none 0 0]:=inferInstance;have H7:=Lib.hid (far S1 wzt ws hS1l inferInstance (h6.out.chg (Aa (w0:=w6) (w:=wzt)).chg (fun h=>h) (fun h=>h)));have hsz7:w6.heap.size≤ws.heap.size:=(inferInstance:Ay w6 ws).out;have hztl:zt<ws.heap.size:=ht7.out.lt;have nw7:Nw w ws:=inferInstance;clear h6;generalize ws=w7 at*;have l1:(S1.at 1).b.length ≤S1.b.length:=S1.at_le 1;refine(AV zr d S1 w7 H7.out (by omega)).mono ?_;rw[HV.out];rintro e w8 ⟨rfl,h8,c8⟩;have st8:Ag (only zr) w7 w8:=⟨c8.out⟩;have ht8:HB w8 zt 66 #[.string (Al NM), .int .i64 0, .int .i64 0, .slice none 0 0, .slice none 0 0]:=inferInstance;have ho8:HB w8 zo 66 #[.string ⟨#[]⟩, .int .i64 0, .int .i64 0, .slice none 0 0, .slice none 0 0]:=inferInstance;have hC8:Hid (Au (GE zr zt) w7 w8):=Lib.hid (c8.out.mono (T:=GE zr zt) (fun _ _ h=> .inl h));go_wp2_with (first|((with_reducible apply AU);exact rfl;exact rfl;exact ht8;exact rfl;exact(show 1<5 by decide);intro wk _ htr;have ht9:HB wk zt 66 #[.string (Al NM), .int .i64 V, .int .i64 0, .slice none 0 0, .slice none 0 0]:=HB.row_eqR htr rfl;clear htr));have ho9:HB wk zo 66 #[.string ⟨#[]⟩, .int .i64 0, .int .i64 0, .slice none 0 0, .slice none 0 0]:=inferInstance;have H9:=Lib.hid (far (S1.at 1) w8 wk (by omega) inferInstance h8.out);have hC9:Hid (Au (GE zr zt) w7 wk):=Lib.hid (hC8.out.trans (inferInstance:Ag (only zt) w8 wk).chg (fun _ _ h=> .inr h));clear h8 c8 hC8;generalize wk=w9 at*;refine(AV zr d (S1.at 1) w9 H9.out (by omega)).mono ?_;rw[HX.out];rintro e w10 ⟨rfl,h10,c10⟩;have st10:Ag (only zr) w9 w10:=⟨c10.out⟩;have ht10:HB w10 zt 66 #[.string (Al NM), .int .i64 V, .int .i64 0, .slice none 0 0, .slice none 0 0]:=inferInstance;have ho10:HB w10 zo 66 #[.string ⟨#[]⟩, .int .i64 0, .int .i64 0, .slice none 0 0, .slice none 0 0]:=inferInstance;have hC10:Hid (Au (GE zr zt) w7 w10):=Lib.hid (hC9.out.trans c10.out (fun _ _ h=> .inl h));go_wp2_with (first|((with_reducible apply AU);exact rfl;exact rfl;exact ht10;exact rfl;exact(show 2<5 by decide);intro wk _ htr;have ht11:HB wk zt 66 #[.string (Al NM), .int .i64 V, .int .i64 X, .slice none 0 0, .slice none 0 0]:=HB.row_eqR htr rfl;clear htr));have ho11:HB wk zo 66 #[.string ⟨#[]⟩, .int .i64 0, .int .i64 0, .slice none 0 0, .slice none 0 0]:=inferInstance;have H11:Hid (Bn wk zr d S2):=Lib.hid (far S2 w10 wk (by omega) inferInstance (by rw[←HS2.out];exact h10.out));have hC11:Hid (Au (GE zr zt) w7 wk):=Lib.hid (hC10.out.trans (inferInstance:Ag (only zt) w10 wk).chg (fun _ _ h=> .inr h));clear h10 c10 hC10 hC9;generalize wk=w11 at*;refine(AV zr d S2 w11 H11.out (by omega)).mono ?_;rw[HN.out,HS3.out];rintro e w12 ⟨rfl,h12,c12⟩;have st12:Ag (only zr) w11 w12:=⟨c12.out⟩;have ht12:HB w12 zt 66 #[.string (Al NM), .int .i64 V, .int .i64 X, .slice none 0 0, .slice none 0 0]:=inferInstance
 have ho12:HB w12 zo 66 #[.string ⟨#[]⟩, .int .i64 0, .int .i64 0, .slice none 0 0, .slice none 0 0]:=inferInstance;have hC12:Hid (Au (GE zr zt) w7 w12):=Lib.hid (hC11.out.trans c12.out (fun _ _ h=> .inl h));clear c12 hC11 ht11 ht10 ht9 ht8 ht7 ho11 ho10 ho9 ho8 ho7 H11 H9 H7 H5
 go_upto_block 0 with fail
 go_cut [] from 6 (fun wx=>∃(k:Nat) (A1:Option Addr) (c1:Nat) (P:List Ad) (t:RS),k≤17∧k≤c1∧Hid (MC Dt 16 S2 P t)∧Hid (P.length=k)∧Hid (∀p∈P,p.l.length≤9223372036854775807∧p.hw.length≤9223372036854775807∧p.ecu.length≤9223372036854775807)∧t.b.length≤S3.b.length∧Hid (Au (GE zr zt) w7 wx)∧Hid (Rd wx A1 (cellsOf P))∧Aj w7 A1∧HB wx zt 66 #[.string (Al NM), .int .i64 V, .int .i64 X, .slice A1 k c1, .slice none 0 0]∧HB wx zo 66 #[.string ⟨#[]⟩, .int .i64 0, .int .i64 0, .slice none 0 0, .slice none 0 0]∧Hid (Bn wx zr d t))
 case first=>
  go_wp2_with fail;go_loopw [7] (fun iv wr=>∃(k:Nat) (A1:Option Addr) (c1:Nat),k≤N∧k≤17∧iv= .int .i64 (k:Int)∧k≤c1∧Hid (Au (GE zr zt) w7 wr)∧HO wr 44 37 A1 k c1 (cellsOf (LQ Dt S3 k))∧Aj w7 A1∧HB wr zt 66 #[.string (Al NM), .int .i64 V, .int .i64 X, .slice A1 k c1, .slice none 0 0]∧HB wr zo 66 #[.string ⟨#[]⟩, .int .i64 0, .int .i64 0, .slice none 0 0, .slice none 0 0]∧Hid (Bn wr zr d (Hi Dt S3 k))) (fun iv _=>17 -(intOf iv).toNat)
  case atStart=>exact⟨0,none,0,Nat.zero_le _,Nat.zero_le _,rfl,Nat.le_refl _,hC12,⟨Cm.nil _ _ _⟩,Ck _,ht12,ho12,h12⟩
  case round=>
   clear st12 h12 ht12 ho12 hC12;obtain⟨k,A1,c1,hkN,hk17,rfl,hkc,hC,hO,hA1,ht,hzo,hR⟩:=hrel;obtain⟨Ar,nr',cr',hrd⟩:=hR.out.blk;have hsl:=Ka.tkS_le S3 k;have hszr:=hC.out.size;have ozA:BW (only zt) A1:=⟨fun ad e h=>by have h':ad.block=zt:=h;have:=hA1.out ad e;omega⟩;have orA:BW (only zr) A1:=⟨fun ad e h=>by have h':ad.block=zr:=h;have:=hA1.out ad e;omega⟩;have orz:As (An A1) zt:=⟨fun⟨ad,e,h⟩=>by have:=hA1.out ad e;omega⟩;have oro:As (An A1) zo:=⟨fun⟨ad,e,h⟩=>by have:=hA1.out ad e;omega⟩;by_cases hgo:k<N∧(Hi Dt S3 k).e =false∧k≤16
   ·obtain⟨hlt,hee,hle⟩:=hgo;have hltI:(k:Int)<N:=by omega
    have hleI:(k:Int)≤16:=by omega
    rw[hee] at hrd;obtain⟨s,hs⟩: ∃s,s=Hi Dt S3 k:=⟨_,rfl⟩;obtain⟨p,hp⟩: ∃p,p=(Dt s).1:=⟨_,rfl⟩;have hsk1:Hi Dt S3 (k+1)=(Dt s).2:=by rw[hs];rfl
    have hskl:=Ka.tkS_le S3 (k+1);have htl:LQ Dt S3 k++[p]=LQ Dt S3 (k+1):=by rw[hp,hs];rfl
    have HTL:=Lib.hid htl;have HSK:=Lib.hid hsk1;have HR1:Hid (Bn wr zr d s):=Lib.hid (by rw[hs];exact hR.out);have hsl1:s.b.length≤140737488351232:=by rw[hs];omega
    have HP:=Lib.hid hp;have kb1:=Aev p;have hszp:(Af.enc p).toArray.size =37:=DB p;have honp:=AY p;have hCr:=hC;clear hC hR hs hsk1 htl hp hsl;go_wp2_with (first|(refine ZJ hrd ?_)|(refine Ct ?_)|(refine CG ?_));refine Ah ((rg3 zr zt A1)) (by kernel_rfl) (fun wd _ _=> ?_);refine YS 0 ?_;refine YS 2 ?_;refine wpAnyH_ready (rs:=[1,3]) (by kernel_rfl) (by simp) (AllReadyH.cons rfl (fun K_ hK_=> ?_) (AllReadyH.cons rfl (fun K_ hK_=> ?_) AllReadyH.nil))
    focus
     refine Yq ?_
     ((with_reducible apply Ac);exact rfl;infer_instance;(first|(exact rfl)|(exact tg_hw _)|(exact tg_ctr _)|(exact tg_ecu _)|(exact srch_who)|exact srch_fd))
     refine Yn hK_ ?_;clear hK_ K_;refine Yg 3 fun K_ hK_=> ?_
     go_simp;refine(Hb (HR1.out.chg (Aa (w0:=wr)).chg (fun h=>h) (fun h=>h)) hsl1).mono ?_;rw[←HP.out,←HSK.out];rintro e w13 ⟨rfl,st13,h13⟩;refine Yz hK_ ?_;clear hK_ K_;refine Yh 4 fun K_ hK_=> ?_
     (refine BM 44 (kb1 _) ?_;intro zb wb _ _ _)
     refine Yn hK_ ?_;clear hK_ K_;refine Yh 5 fun K_ hK_=> ?_
     ((with_reducible apply(Bb (α:=Ad)));exact rfl;exact rfl;infer_instance;infer_instance;exact HB.cells inferInstance;exact rfl;exact rfl;omega;(decide);(decide);intro L2 lc2 wa _ _ hG hcap2)
     refine Yn hK_ ?_;clear hK_ K_;refine YS 6 ?_;refine Yh 7 fun K_ hK_=> ?_
     (refine KZ ?_;intro ws _ _)
     refine Ym hK_ ?_;clear hK_ K_;refine Yd ?_
    rotate_left 1
    focus
     go_simp;refine(Hb (HR1.out.chg (Aa (w0:=wr)).chg (fun h=>h) (fun h=>h)) hsl1).mono ?_;rw[←HP.out,←HSK.out];rintro e w13 ⟨rfl,st13,h13⟩;refine Yz hK_ ?_;clear hK_ K_;refine wpAnyH_ready (rs:=[1,4]) (by kernel_rfl) (by simp) (AllReadyH.cons rfl (fun K_ hK_=> ?_) (AllReadyH.cons rfl (fun K_ hK_=> ?_) AllReadyH.nil))
     focus
      refine Yq ?_
      ((with_reducible apply Ac);exact rfl;infer_instance;(first|(exact rfl)|(exact tg_hw _)|(exact tg_ctr _)|(exact tg_ecu _)|(exact srch_who)|exact srch_fd))
      refine Yn hK_ ?_;clear hK_ K_;refine Yh 4 fun K_ hK_=> ?_
      (refine BM 44 (kb1 _) ?_;intro zb wb _ _ _)
      refine Yn hK_ ?_;clear hK_ K_;refine Yh 5 fun K_ hK_=> ?_
      ((with_reducible apply(Bb (α:=Ad)));exact rfl;exact rfl;infer_instance;infer_instance;exact HB.cells inferInstance;exact rfl;exact rfl;omega;(decide);(decide);intro L2 lc2 wa _ _ hG hcap2)
      refine Yn hK_ ?_;clear hK_ K_;refine YS 6 ?_;refine Yh 7 fun K_ hK_=> ?_
      (refine KZ ?_;intro ws _ _)
      refine Ym hK_ ?_;clear hK_ K_;refine Yd ?_
     rotate_left 1
     focus
      refine Yq ?_
      (refine BM 44 (kb1 _) ?_;intro zb wb _ _ _)
      refine Yn hK_ ?_;clear hK_ K_;refine Yh 1 fun K_ hK_=> ?_
      ((with_reducible apply Ac);exact rfl;infer_instance;(first|(exact rfl)|(exact tg_hw _)|(exact tg_ctr _)|(exact tg_ecu _)|(exact srch_who)|exact srch_fd))
      refine Yn hK_ ?_;clear hK_ K_;refine Yh 5 fun K_ hK_=> ?_
      ((with_reducible apply(Bb (α:=Ad)));exact rfl;exact rfl;infer_instance;infer_instance;exact HB.cells inferInstance;exact rfl;exact rfl;omega;(decide);(decide);intro L2 lc2 wa _ _ hG hcap2)
      refine Yn hK_ ?_;clear hK_ K_;refine YS 6 ?_;refine Yh 7 fun K_ hK_=> ?_
      (refine KZ ?_;intro ws _ _)
      refine Ym hK_ ?_;clear hK_ K_;refine Yd ?_
     rotate_left 1
    rotate_left 2
    all_goals
     have hcA:Au (An A1) w13 wa:=(inferInstance:Ch (An A1) w13 wa).out;have hcS:Au (only zt) wa ws:=(inferInstance:Ag (only zt) wa ws).chg;have hc5:Au (only zr) wr w13:=(inferInstance:Ch (only zr) wr w13).out;have hA2:Aj w7 L2:=GC hG hA1 (by
      have h1:=(inferInstance:Ay w13 wb).out;have h2:=hc5.size;omega)
     have hdk:(Hi Dt S3 (k+1)).b ≠[]→d<w5.heap.size:=fun h=>hd5 (Fx (by omega) h)
     go_wp2_with fail;refine⟨⟨k+1,L2,lc2,by omega,by omega,by go_num,hcap2,Lib.hid ?_, ?_,hA2,inferInstance,inferInstance,Lib.hid ?_⟩,by simp[intOf];omega⟩
     ·exact((hCr.out.trans hc5 (fun _ _ h=> .inl h)).trans hcA (fun x hx ⟨ad,e,h⟩=>by have:=hA1.out ad e;omega)).trans hcS (fun _ _ h=> .inr h)
     ·rw[←HTL.out];infer_instance
     exact(h13.out.far hcA (m:=w5.heap.size) (fun x ⟨ad,e,h⟩=>by have:=hA1.out ad e;omega) hltr hdk).far hcS (m:=w5.heap.size) (fun x h=>by have h':x=zt:=h;omega) hltr hdk
   have HGL:Hid (MC Dt 16 S2 (LQ Dt S3 k) (Hi Dt S3 k)):=Lib.hid (by
     refine⟨k,hk17,by rw[HN.out];exact hkN, ?_,by rw[HS3.out],by rw[HS3.out]⟩;rw[HN.out,HS3.out];cases hee:(Hi Dt S3 k).e
     ·by_cases hlt:k<N
      ·exact .inr (.inl (by have: ¬k≤16:=fun h=>hgo ⟨hlt,hee,h⟩;omega))
      exact .inl (by omega)
     exact .inr (.inr rfl))
   have hcase:(¬k<N)∨(k<N∧(Hi Dt S3 k).e =true)∨(k<N∧(Hi Dt S3 k).e =false∧¬k≤16):=by
    by_cases hlt:k<N
    ·cases hee:(Hi Dt S3 k).e
     ·exact .inr (.inr ⟨hlt,rfl,fun h=>hgo ⟨hlt,hee,h⟩⟩)
     exact .inr (.inl ⟨hlt,rfl⟩)
    exact .inl hlt
   obtain⟨t,ht'⟩: ∃t,t=Hi Dt S3 k:=⟨_,rfl⟩;obtain⟨P,hP⟩: ∃P,P=LQ Dt S3 k:=⟨_,rfl⟩;have hPl:P.length=k:=by rw[hP,Kb]
   have HPN:Hid (∀p∈P,p.l.length≤9223372036854775807∧p.hw.length≤9223372036854775807∧p.ecu.length≤9223372036854775807):=Lib.hid (fun p hp=>by
    rw[hP] at hp;have:=Aa9 S3 k p hp;omega)
   have htl:t.b.length≤S3.b.length:=by rw[ht'];exact hsl
   rw[←ht'] at hR hcase hrd HGL;rw[←hP] at hO HGL;have HPL:=Lib.hid hPl;have HO1:Hid (Rd wr A1 (cellsOf P)):=Lib.hid hO.out.rd;have hC1:=hC;have hR1:=hR;clear hgo ht' hP hPl hsl hC hR;rcases hcase with hlt|⟨hlt,hee⟩|⟨hlt,hee,hle4⟩
   focus
    have hltI: ¬(k:Int)<N:=by omega
    clear hlt;go_wp2_with fail
    go_meet
    case rel=>exact⟨k,A1,c1,P,t,hk17,hkc,HGL,HPL,HPN,htl,hC1,HO1,hA1,ht,hzo,hR1⟩
   focus
    have hltI:(k:Int)<N:=by omega
    rw[hee] at hrd;clear hlt hee;go_wp2_with (first|(refine ZJ hrd ?_)|(refine Ct ?_)|(refine CG ?_))
    go_meet
    case rel=>exact⟨k,A1,c1,P,t,hk17,hkc,HGL,HPL,HPN,htl,hC1,HO1,hA1,ht,hzo,hR1⟩
   focus
    have hltI:(k:Int)<N:=by omega
    have hleI: ¬(k:Int)≤16:=by omega
    rw[hee] at hrd;clear hlt hee hle4;go_wp2_with (first|(refine ZJ hrd ?_)|(refine Ct ?_)|(refine CG ?_))
    go_meet
    case rel=>exact⟨k,A1,c1,P,t,hk17,hkc,HGL,HPL,HPN,htl,hC1,HO1,hA1,ht,hzo,hR1⟩
 case rest=>
 obtain⟨k,A1,c1,P,t,hk17,hkc,HGL,HPL,HPN,htl,hC,HO1,hA1,ht,hzo,hR⟩:=hcut;generalize wc=wA at*;obtain⟨N2,hN2⟩: ∃N,N=t.num.1:=⟨_,rfl⟩;obtain⟨T3,hT3⟩: ∃x,x=t.num.2:=⟨_,rfl⟩;have hT3l:T3.b.length≤t.b.length:=by rw[hT3];exact RS.num_le t
 have HN2:=Lib.hid hN2;have HT3:=Lib.hid hT3;have orA:BW (only zr) A1:=⟨fun ad e h=>by have h':ad.block=zr:=h;have:=hA1.out ad e;omega⟩;have ozA:BW (only zt) A1:=⟨fun ad e h=>by have h':ad.block=zt:=h;have:=hA1.out ad e;omega⟩;clear hN2 hT3;go_wp2_with fail;refine(AV zr d t wA hR.out (by omega)).mono ?_;rw[←HN2.out,←HT3.out];rintro e w13 ⟨rfl,h13,c13⟩;have st13:Ag (only zr) wA w13:=⟨c13.out⟩;have ht13:HB w13 zt 66 #[.string (Al NM), .int .i64 V, .int .i64 X, .slice A1 k c1, .slice none 0 0]:=inferInstance;have ho13:HB w13 zo 66 #[.string ⟨#[]⟩, .int .i64 0, .int .i64 0, .slice none 0 0, .slice none 0 0]:=inferInstance;have HP13:Hid (Rd w13 A1 (cellsOf P)):=Lib.hid (HO1.out.chg c13.out (fun _ ad e h=>orA.out ad e h));have hC13:Hid (Au (GE zr zt) w7 w13):=Lib.hid (hC.out.trans c13.out (fun _ _ h=> .inl h));clear c13 hC HO1 hR ht hzo
 go_upto_block 2 with fail
 go_cut [] from 6 (fun wx=>∃(j:Nat) (A2:Option Addr) (c2:Nat) (D:List Ax) (s':RS),j≤17∧j≤c2∧Hid (XZ Jb 16 t (D.map Ax.m) s')∧Hid (D.length=j)∧Hid (∀x∈D,x.l.length≤9223372036854775807∧x.pre.length≤9223372036854775807)∧s'.b.length≤140737488351232∧Hid (Au (GE zr zt) w7 wx)∧Hid (Rd wx A2 (cellsOf D))∧Aj w7 A2∧HB wx zt 66 #[.string (Al NM), .int .i64 V, .int .i64 X, .slice A1 k c1, .slice A2 j c2]∧HB wx zo 66 #[.string ⟨#[]⟩, .int .i64 0, .int .i64 0, .slice none 0 0, .slice none 0 0]∧Hid (Bn wx zr d s')∧Hid (∀x∈D,Vh wx x∧Aj w7 x.k.A)∧Hid (Rd wx A1 (cellsOf P)))
 case first=>
  go_wp2_with fail;go_loopw [8] (fun iv wr=>∃(j:Nat) (A2:Option Addr) (c2:Nat) (D:List Ax) (s':RS),j≤N2∧j≤17∧iv= .int .i64 (j:Int)∧j≤c2∧Hid (Au (GE zr zt) w7 wr)∧HO wr 213 5 A2 j c2 (cellsOf D)∧Aj w7 A2∧HB wr zt 66 #[.string (Al NM), .int .i64 V, .int .i64 X, .slice A1 k c1, .slice A2 j c2]∧HB wr zo 66 #[.string ⟨#[]⟩, .int .i64 0, .int .i64 0, .slice none 0 0, .slice none 0 0]∧Hid (Bn wr zr d s')∧Hid (Hn Jb T3 j (D.map Ax.m) s')∧Hid (KsD w7 wr A2 D)∧Hid (Rd wr A1 (cellsOf P))∧Hid (∀y,An A2 y→w13.heap.size≤y)∧w13.heap.size≤wr.heap.size) (fun iv _=>17 -(intOf iv).toNat)
  case atStart=>exact⟨0,none,0,[],T3,Nat.zero_le _,Nat.zero_le _,rfl,Nat.le_refl _,hC13,⟨Cm.nil _ _ _⟩,Ck _,ht13,ho13,h13,Lib.hid ⟨rfl,rfl⟩,Lib.hid (fun x hx=>by cases hx),HP13,Lib.hid (fun y ⟨ad,e,_⟩=>by cases e),Nat.le_refl _⟩
  case round=>
   have hs13:=hC13.out.size;clear st13 h13 ht13 ho13 hC13;obtain⟨j,A2,c2,D,s',hjN,hj17,rfl,hjc,hC,hO,hA2,ht,hzo,hR,hrel,hKD,hPr,hA2n,hw13⟩:=hrel;obtain⟨Ar,nr',cr',hrd⟩:=hR.out.blk;have hsl:=Hn.le Jb.le hrel.out;have hszr:=hC.out.size;have ozA2:BW (only zt) A2:=⟨fun ad e h=>by have h':ad.block=zt:=h;have:=hA2.out ad e;omega⟩;have orA2:BW (only zr) A2:=⟨fun ad e h=>by have h':ad.block=zr:=h;have:=hA2.out ad e;omega⟩;have orz2:As (An A2) zt:=⟨fun⟨ad,e,h⟩=>by have:=hA2.out ad e;omega⟩;have oro2:As (An A2) zo:=⟨fun⟨ad,e,h⟩=>by have:=hA2.out ad e;omega⟩;by_cases hgo:j<N2∧s'.e=false∧j≤16
   ·obtain⟨hlt,hee,hle⟩:=hgo;have hltI:(j:Int)<N2:=by omega
    have hleI:(j:Int)≤16:=by omega
    rw[hee] at hrd;have HR1:=hR;have HREL:=hrel;have HKD:=hKD;have HPR:=hPr;have HA2N:=hA2n;have hCr:=hC;have hsl1:s'.b.length≤140737488351232:=by omega
    have hDl:D.length=j:=by
     have h9:=Hn.len hrel.out;rw[List.length_map] at h9;exact h9
    have HDL:=Lib.hid hDl;clear hC hR hrel hKD hPr hA2n hDl;go_wp2_with (first|(refine ZJ hrd ?_)|(refine Ct ?_)|(refine CG ?_));refine Ah ((rg3 zr zt A2)) (by kernel_rfl) (fun wd _ _=> ?_);refine YS 0 ?_;refine YS 2 ?_;refine wpAnyH_ready (rs:=[1,3]) (by kernel_rfl) (by simp) (AllReadyH.cons rfl (fun K_ hK_=> ?_) (AllReadyH.cons rfl (fun K_ hK_=> ?_) AllReadyH.nil))
    focus
     refine Yq ?_
     ((with_reducible apply Ac);exact rfl;infer_instance;(first|(exact rfl)|(exact tg_hw _)|(exact tg_ctr _)|(exact tg_ecu _)|(exact srch_who)|exact srch_fd))
     refine Yn hK_ ?_;clear hK_ K_;refine Yg 3 fun K_ hK_=> ?_
     go_simp;refine(IV (HR1.out.chg (Aa (w0:=wr)).chg (fun h=>h) (fun h=>h)) hsl1).mono ?_;rintro e w14 ⟨x,s2,rfl,st14,h14,hx,hxi⟩;have HX0:=hx;have HXI:=Lib.hid hxi.out.1;have hxA:Aj wr x.k.A:=⟨fun ad e=>Nat.le_trans (Aa (w0:=wr)).chg.size (hxi.out.2.out ad e)⟩;have hszx:(Af.enc x).toArray.size =5:=rfl;have honx:=AY x;clear hx hxi;refine Yz hK_ ?_;clear hK_ K_;refine Yh 4 fun K_ hK_=> ?_
     (refine BM 69 (Sz _ _) ?_;intro zb wb _ _ _)
     refine Yn hK_ ?_;clear hK_ K_;refine Yh 5 fun K_ hK_=> ?_
     ((with_reducible apply(Bb (α:=Ax)));exact rfl;exact rfl;infer_instance;infer_instance;exact HB.cells inferInstance;exact rfl;exact rfl;omega;(decide);(decide);intro L2 lc2 wa _ _ hG hcap2)
     refine Yn hK_ ?_;clear hK_ K_;refine YS 6 ?_;refine Yh 7 fun K_ hK_=> ?_
     (refine KZ ?_;intro ws _ _)
     refine Ym hK_ ?_;clear hK_ K_;refine Yd ?_
    rotate_left 1
    focus
     go_simp;refine(IV (HR1.out.chg (Aa (w0:=wr)).chg (fun h=>h) (fun h=>h)) hsl1).mono ?_;rintro e w14 ⟨x,s2,rfl,st14,h14,hx,hxi⟩;have HX0:=hx;have HXI:=Lib.hid hxi.out.1;have hxA:Aj wr x.k.A:=⟨fun ad e=>Nat.le_trans (Aa (w0:=wr)).chg.size (hxi.out.2.out ad e)⟩;have hszx:(Af.enc x).toArray.size =5:=rfl;have honx:=AY x;clear hx hxi;refine Yz hK_ ?_;clear hK_ K_;refine wpAnyH_ready (rs:=[1,4]) (by kernel_rfl) (by simp) (AllReadyH.cons rfl (fun K_ hK_=> ?_) (AllReadyH.cons rfl (fun K_ hK_=> ?_) AllReadyH.nil))
     focus
      refine Yq ?_
      ((with_reducible apply Ac);exact rfl;infer_instance;(first|(exact rfl)|(exact tg_hw _)|(exact tg_ctr _)|(exact tg_ecu _)|(exact srch_who)|exact srch_fd))
      refine Yn hK_ ?_;clear hK_ K_;refine Yh 4 fun K_ hK_=> ?_
      (refine BM 69 (Sz _ _) ?_;intro zb wb _ _ _)
      refine Yn hK_ ?_;clear hK_ K_;refine Yh 5 fun K_ hK_=> ?_
      ((with_reducible apply(Bb (α:=Ax)));exact rfl;exact rfl;infer_instance;infer_instance;exact HB.cells inferInstance;exact rfl;exact rfl;omega;(decide);(decide);intro L2 lc2 wa _ _ hG hcap2)
      refine Yn hK_ ?_;clear hK_ K_;refine YS 6 ?_;refine Yh 7 fun K_ hK_=> ?_
      (refine KZ ?_;intro ws _ _)
      refine Ym hK_ ?_;clear hK_ K_;refine Yd ?_
     rotate_left 1
     focus
      refine Yq ?_
      (refine BM 69 (Sz _ _) ?_;intro zb wb _ _ _)
      refine Yn hK_ ?_;clear hK_ K_;refine Yh 1 fun K_ hK_=> ?_
      ((with_reducible apply Ac);exact rfl;infer_instance;(first|(exact rfl)|(exact tg_hw _)|(exact tg_ctr _)|(exact tg_ecu _)|(exact srch_who)|exact srch_fd))
      refine Yn hK_ ?_;clear hK_ K_;refine Yh 5 fun K_ hK_=> ?_
      ((with_reducible apply(Bb (α:=Ax)));exact rfl;exact rfl;infer_instance;infer_instance;exact HB.cells inferInstance;exact rfl;exact rfl;omega;(decide);(decide);intro L2 lc2 wa _ _ hG hcap2)
      refine Yn hK_ ?_;clear hK_ K_;refine YS 6 ?_;refine Yh 7 fun K_ hK_=> ?_
      (refine KZ ?_;intro ws _ _)
      refine Ym hK_ ?_;clear hK_ K_;refine Yd ?_
     rotate_left 1
    rotate_left 2
    all_goals
     have hcA:Au (An A2) w14 wa:=(inferInstance:Ch (An A2) w14 wa).out;have hcS:Au (only zt) wa ws:=(inferInstance:Ag (only zt) wa ws).chg;have hc5:Au (only zr) wr w14:=(inferInstance:Ch (only zr) wr w14).out;have hb5:w14.heap.size≤wb.heap.size:=(inferInstance:Ay w14 wb).out;have hr5:=hc5.size;have hsF:w14.heap.size≤ws.heap.size:=Nat.le_trans hcA.size hcS.size;have hA3:Aj w7 L2:=GC hG hA2 (by omega);have hdk:s2.b≠[]→d<w5.heap.size:=fun h=>hd5 (Fx (by
      have h9:=Jb.le _ _ _ HX0.out;omega) h)
     have hA2lt: ∀y,An A2 y→y<wr.heap.size:=fun y ⟨ad,e,h⟩=>by rw[←h];exact hO.out.lt e
     have hxn: ∀y,Jw x.k.A x.k.l y→wr.heap.size≤y:=fun y ⟨_,ad,e,h⟩=>by rw[←h];exact hxA.out ad e
     have hgr: ∀y,An L2 y→An A2 y∨wb.heap.size=y:=fun y h=>by
      rcases hG.out with h9|h9
      ·rw[h9] at h;exact .inl h
      rw[h9] at h;obtain⟨ad,e,h8⟩:=h;injection e with e
      subst e;exact .inr h8
     have hKD2:Hid (KsD w7 ws L2 (D++[x])):=Lib.hid (by
      intro z hz;rcases List.mem_append.1 hz with h|h
      ·obtain⟨q1,q2,q3⟩:=HKD.out z h;refine⟨BN.chg (BN.chg (BN.chg q1 hc5 (fun y hy h=> ?_)) hcA q3) hcS (fun y hy h=> ?_),q2,fun y hy h=> ?_⟩
       ·obtain⟨_,ad,e,h9⟩:=hy;have h8:=q2.out ad e;have h7:y=zr:=h;omega
       ·obtain⟨_,ad,e,h9⟩:=hy;have h8:=q2.out ad e;have h7:y=zt:=h;omega
       have h6:=BN.low q1 y hy;rcases hgr y h with h9|h9
       ·exact q3 y hy h9
       omega
      obtain rfl:=List.mem_singleton.1 h;refine⟨BN.chg (BN.chg HXI.out hcA (fun y hy h=> ?_)) hcS (fun y hy h=> ?_),⟨fun ad e=>Nat.le_trans hszr (hxA.out ad e)⟩,fun y hy h=> ?_⟩
      ·have h8:=hxn y hy;have h9:=hA2lt y h;omega
      ·have h8:=hxn y hy;have h7:y=zt:=h;omega
      have h6:=BN.low HXI.out y hy;have h5:=hxn y hy;rcases hgr y h with h9|h9
      ·have h4:=hA2lt y h9;omega
      omega)
     go_wp2_with fail;refine⟨⟨j+1,L2,lc2,D++[x],s2,by omega,by omega,by go_num,hcap2,Lib.hid ?_, ?_,hA3,inferInstance,inferInstance,Lib.hid ?_,Lib.hid ?_,hKD2,Lib.hid ?_,Lib.hid ?_,by omega⟩,by simp[intOf];omega⟩
     ·exact((hCr.out.trans hc5 (fun _ _ h=> .inl h)).trans hcA (fun x hx ⟨ad,e,h⟩=>by have:=hA2.out ad e;omega)).trans hcS (fun _ _ h=> .inr h)
     ·infer_instance
     ·exact(h14.out.far hcA (m:=w5.heap.size) (fun x ⟨ad,e,h⟩=>by have:=hA2.out ad e;omega) hltr hdk).far hcS (m:=w5.heap.size) (fun x h=>by have h':x=zt:=h;omega) hltr hdk
     ·exact⟨D.map Ax.m,s',x.m,HREL.out,HX0.out,by rw[List.map_append];rfl⟩
     ·exact((HPR.out.chg hc5 (fun _ ad e h=>orA.out ad e h)).chg hcA (fun hne ad e h=>by
        have h8:=DC HP13.out hne e;have h9:=HA2N.out _ h;omega)).chg hcS (fun _ ad e h=>ozA.out ad e h)
     intro y hy;rcases hgr y hy with h9|h9
     ·exact HA2N.out y h9
     omega
   have HGR:Hid (XZ Jb 16 t (D.map Ax.m) s'):=Lib.hid (by
     refine⟨j,hj17,by rw[←HN2.out];exact hjN, ?_,by rw[←HT3.out];exact hrel.out⟩;rw[←HN2.out];cases hee:s'.e
     ·by_cases hlt:j<N2
      ·exact .inr (.inl (by have: ¬j≤16:=fun h=>hgo ⟨hlt,hee,h⟩;omega))
      exact .inl (by omega)
     exact .inr (.inr rfl))
   have hcase:(¬j<N2)∨(j<N2∧s'.e=true)∨(j<N2∧s'.e=false∧¬j≤16):=by
    by_cases hlt:j<N2
    ·cases hee:s'.e
     ·exact .inr (.inr ⟨hlt,rfl,fun h=>hgo ⟨hlt,hee,h⟩⟩)
     exact .inr (.inl ⟨hlt,rfl⟩)
    exact .inl hlt
   have hDl:D.length=j:=by
    have h9:=Hn.len hrel.out;rw[List.length_map] at h9;exact h9
   have hDD:Hid (∀x∈D,x.l.length≤9223372036854775807∧x.pre.length≤9223372036854775807):=Lib.hid (fun x hx=>by
    have h9:=Hn.lens hrel.out x.m (List.mem_map_of_mem hx);have h8:x.l.length≤T3.b.length∧x.pre.length≤T3.b.length:=h9;exact⟨by omega,by omega⟩)
   have hsl2:s'.b.length≤140737488351232:=by omega
   have HDL2:=Lib.hid hDl;have HO':Hid (Rd wr A2 (cellsOf D)):=Lib.hid hO.out.rd;have HKD:Hid (∀x∈D,Vh wr x∧Aj w7 x.k.A):=Lib.hid (fun x hx=>⟨(hKD.out x hx).1,(hKD.out x hx).2.1⟩);have hC1:=hC;have hR1:=hR;have hPr1:=hPr;clear hgo hDl hC hR hrel hKD hPr hA2n;rcases hcase with hlt|⟨hlt,hee⟩|⟨hlt,hee,hle4⟩
   focus
    have hltI: ¬(j:Int)<N2:=by omega
    clear hlt;go_wp2_with fail
    go_meet
    case rel=>exact⟨j,A2,c2,D,s',hj17,hjc,HGR,HDL2,hDD,hsl2,hC1,HO',hA2,ht,hzo,hR1,HKD,hPr1⟩
   focus
    have hltI:(j:Int)<N2:=by omega
    rw[hee] at hrd;clear hlt hee;go_wp2_with (first|(refine ZJ hrd ?_)|(refine Ct ?_)|(refine CG ?_))
    go_meet
    case rel=>exact⟨j,A2,c2,D,s',hj17,hjc,HGR,HDL2,hDD,hsl2,hC1,HO',hA2,ht,hzo,hR1,HKD,hPr1⟩
   focus
    have hltI:(j:Int)<N2:=by omega
    have hleI: ¬(j:Int)≤16:=by omega
    rw[hee] at hrd;clear hlt hee hle4;go_wp2_with (first|(refine ZJ hrd ?_)|(refine Ct ?_)|(refine CG ?_))
    go_meet
    case rel=>exact⟨j,A2,c2,D,s',hj17,hjc,HGR,HDL2,hDD,hsl2,hC1,HO',hA2,ht,hzo,hR1,HKD,hPr1⟩
 case rest=>
 obtain⟨j,A2,c2,D,s',hj17,hjc,HGR,HDL2,hDD,hsl2,hC2,HO',hA2,ht2,hzo2,HR',HKD,HPR⟩:=hcut;clear st13 h13 ht13 ho13 hC13 HP13;have hRF2:=HRF.out _ _ _ _ HGL.out HGR.out;rw[←Xu] at hRF2;have HF:=Lib.hid hRF2;obtain⟨I,hI⟩: ∃I,I=DO NM V X P D:=⟨_,rfl⟩;have HI:=Lib.hid hI;have hzoF:zo<w7.heap.size:=by omega
 have nwr:Nw w wc:=⟨nw7.out.trans hC2.out (fun x hx h=>by rcases h with h|h<;>omega)⟩;have hrP:HR wc A1 (cellsOf P):=⟨HPR.out⟩;have hrD:HR wc A2 (cellsOf D):=⟨HO'.out⟩;have hnm9:NM.length≤9223372036854775807:=by omega
 have HN9:=Lib.hid hnm9;have hDW: ∀x∈D,FG wc x∧x.l.length≤9223372036854775807∧x.pre.length≤9223372036854775807:=fun x hx=>⟨Vh.w (HKD.out x hx).1,hDD.out x hx⟩
 have HDW:=Lib.hid hDW;clear hRF2 hI hnm9 hDW kbU;go_wp2_with (first|(refine Cp ?_));refine(Jp NM V X (P:=P) (D:=D) HPL.out HDL2.out (by omega) (by omega) HN9.out HPN.out HDW.out).mono ?_;unfold AR;rw[←HI.out] at HF⊢;cases I
 case false=>
  have HNO:Hid (Di b=false):=Lib.hid (by rw[←HF.out.1];simp);rintro e w15 ⟨st15,h15⟩;obtain rfl:e=_:=h15;go_wp2_with fail;have nw15:Nw w w15:=inferInstance;have hb15:HR w15 A (bs b):=nw15.hrR HRR.out;have hn15:HR w15 none (bs []):=HR.nilB w15;have HR15:Bn w15 zr d s':=HR'.out.chg st15.chg (fun h=>h) (fun h=>h);refine(DP (b:=b) (y:=[]) (e0:=1) HR15 (by omega) HLE.out rfl).mono ?_;rw[show(Cv s'&&decide ((1:Int)=0)&&decide (b=[]))=false by simp];rintro e w16 ⟨rfl,rfl⟩;go_wp2_with (first|(refine WSB 83 (kb0 _) ?_)|(refine Bt ?_;intro ws _ _));refine AA rfl rfl rfl (n:=5) rfl rfl ⟨Aa,[],0,0,none,0,0,none,0,0,[],[],2,rfl,Lib.hid ⟨?_,⟨rfl,Nat.le_refl _,Nat.zero_le _⟩,rfl,Nat.le_refl _,Nat.zero_le _⟩,Lib.hid ⟨Rd.nil _ _,Rd.nil _ _,fun x hx=>by cases hx⟩,Ck _,Ck _⟩;rw[HM.out,HNO.out];rfl
 case true=>
  rintro e w15 ⟨st15,A5,n5,c5,rfl,hn5,hO5,hA5⟩;have HN5:=Lib.hid hn5;have HO5:=Lib.hid hO5.out.rd;clear hn5 hO5;go_wp2_with fail;have nw15:Nw w w15:=inferInstance;have hb15:HR w15 A (bs b):=nw15.hrR HRR.out;have hy15:HR w15 A5 (bs (Et NM V X P (D.map Ax.m))):=⟨HO5.out⟩;have HR15:Bn w15 zr d s':=HR'.out.chg st15.chg (fun h=>h) (fun h=>h);refine(DP (b:=b) (y:=Et NM V X P (D.map Ax.m)) (e0:=0) HR15 (by omega) HLE.out HN5.out.symm).mono ?_;have e9:(Cv s'&&decide ((0:Int)=0)&&decide (b=Et NM V X P (D.map Ax.m)))=Di b:=HF.out.1;rw[e9];clear e9;have ht15:HB w15 zt 66 #[.string (Al NM), .int .i64 V, .int .i64 X, .slice A1 k c1, .slice A2 j c2]:=inferInstance;have hzo15:HB w15 zo 66 #[.string ⟨#[]⟩, .int .i64 0, .int .i64 0, .slice none 0 0, .slice none 0 0]:=inferInstance;cases hOK:Di b
  case false=>
   have HNO:=Lib.hid hOK;clear hOK;rintro e w16 ⟨rfl,rfl⟩;go_wp2_with (first|(refine WSB 83 (kb0 _) ?_)|(refine Bt ?_;intro ws _ _));refine AA rfl rfl rfl (n:=5) rfl rfl ⟨Aa,[],0,0,none,0,0,none,0,0,[],[],2,rfl,Lib.hid ⟨?_,⟨rfl,Nat.le_refl _,Nat.zero_le _⟩,rfl,Nat.le_refl _,Nat.zero_le _⟩,Lib.hid ⟨Rd.nil _ _,Rd.nil _ _,fun x hx=>by cases hx⟩,Ck _,Ck _⟩;rw[HM.out,HNO.out];rfl
  case true=>
   have HYE:Hid (tgM b=(NM,(V:Int),(X:Int),P,D.map Ax.m,(0:Int))):=Lib.hid (by rw[HM.out,hOK,(HF.out.2 hOK).1,(HF.out.2 hOK).2];rfl);have H16:Hid (k≤16∧j≤16):=Lib.hid (by
    have h9:=Pe HI.out.symm;rw[←HPL.out,←HDL2.out];exact⟨h9.2.1,h9.2.2.2.1⟩)
   clear hOK;rintro e w16 ⟨rfl,rfl⟩;go_wp2_with (first|(refine Cp ?_)|(refine Bt ?_;intro ws _ _));have hcF:Au (only zo) wc ws:=(inferInstance:Ch (only zo) wc ws).out;refine AA rfl rfl rfl (n:=5) rfl rfl ⟨Aa,NM,V,X,A1,k,c1,A2,j,c2,P,D,0,rfl,Lib.hid ⟨HYE.out.symm,⟨HPL.out,hkc,H16.out.1⟩,HDL2.out,hjc,H16.out.2⟩,Lib.hid ⟨?_, ?_,fun x hx=>⟨?_,⟨fun ad e=>Nat.le_trans nw7.out.size ((HKD.out x hx).2.out ad e)⟩⟩⟩,⟨fun ad e=>Nat.le_trans nw7.out.size (hA1.out ad e)⟩,⟨fun ad e=>Nat.le_trans nw7.out.size (hA2.out ad e)⟩⟩
   ·exact HPR.out.chg hcF (fun _ ad e h=>by
      have h':ad.block=zo:=h;have:=hA1.out ad e;omega)
   ·exact HO'.out.chg hcF (fun _ ad e h=>by
      have h':ad.block=zo:=h;have:=hA2.out ad e;omega)
   exact BN.chg (HKD.out x hx).1 hcF (fun y ⟨_,ad,e,h9⟩ h=>by
   have h':y=zo:=h;have:=(HKD.out x hx).2.out ad e;omega)
end Go.Proofs.YtjjhceeookpieaaGreat
