/- UhRoI, UhRoJ, UhChA, UhChB, UhChD, UhChE -/
import Derived.Test.YtjjhceeookpieaaGreatUhZ
import Derived.Test.YtjjhceeookpieaaGreatUhTgD
import Derived.Test.YtjjhceeookpieaaGreatUhQmA
import Derived.Test.YtjjhceeookpieaaGreatUhWzC
import Derived.Test.YtjjhceeookpieaaGreatUhUnD
section
set_option maxRecDepth 100000
set_option maxHeartbeats 3200000
open Go Go.RowKit
namespace Go.Proofs.YtjjhceeookpieaaGreat
theorem Bn.far {S:Nat→Prop} {w w':World} {g d:Nat} {s:RS} {m:Nat} (h:Bn w g d s) (hc:Au S w w') (hS: ∀x,S x→m≤x) (hg:g<m) (hd:s.b≠[]→d<m):Bn w' g d s:=
 h.chg2 hc (fun e=>by have:=hS _ e;omega) (fun hne e=>by have:=hS _ e;have:=hd hne;omega)
theorem Bn.blk {w:World} {g d:Nat} {s:RS} (h:Bn w g d s): ∃A n c,HB w g 241 #[.slice A n c, .bool s.e]:=by
 obtain⟨⟨A,n,c,_,_,hb,_⟩,_⟩:=h;exact⟨A,n,c,⟨hb⟩⟩
def rg3 (g z:Nat) (A:Option Addr):Nat→Prop:=fun x=>x=g∨x=z∨An A x
instance Am0 (w:World) (g z:Nat) (A:Option Addr):KE w (only g) (rg3 g z A):=⟨fun _ _ h=> .inl h⟩
instance Am1 (w:World) (g z:Nat) (A:Option Addr):KE w (only z) (rg3 g z A):=⟨fun _ _ h=> .inr (.inl h)⟩
instance Am2 (w:World) (g z:Nat) (A:Option Addr):KE w (An A) (rg3 g z A):=⟨fun _ _ h=> .inr (.inr h)⟩
theorem IX {g d:Nat} {s:RS} {w:World} (hw:Bn w g d s) (hl:s.b.length≤140737488351232):
    Calls Tryz.prog 141 #[.pointer (some ⟨g,0,none⟩)] w fun e w'=>∃(k:KR) (need:Nat) (s':RS),e= .returned (.agg (Af.enc k).toArray)∧Ag (only g) w w'∧Hid (Bn w' g d s')∧Hid (Ny s k.l need s'∧k.need=(need:Int))∧Hid (BN w' k∧Aj w k.A):=by
 have HW0:=Lib.hid hw;have HL:=Lib.hid hl;have hgl:=hw.lt;have hdl:=hw.dlt;obtain⟨N,hN⟩: ∃N,N=s.num.1:=⟨_,rfl⟩;obtain⟨S,hS1⟩: ∃S,S=s.num.2:=⟨_,rfl⟩;have HN:=Lib.hid hN;have HS:=Lib.hid hS1;have hSl:S.b.length≤140737488351232:=by rw[hS1];exact Nat.le_trans (RS.num_le s) hl
 have hSd:S.b≠[]→d<w.heap.size:=fun h=>hdl (Ab9 (by rw[←hS1];exact h))
 clear hw hl hN hS1;go_enter Tryz.func141,Tryz.ntmps141;go_wp2_with (first|(refine BB 2 ?_;intro zo wzo _ _ _)|(refine BB 3 ?_;intro zk wzk _ _ _));have hzo:w.heap.size≤zo:=Nat.le_of_eq (inferInstance:AW w zo).eq.symm;have hzol:zo<wzo.heap.size:=(inferInstance:HB wzo zo 30 #[.slice none 0 0, .int .i64 0]).out.lt;have hzk0:wzo.heap.size≤zk:=Nat.le_of_eq (inferInstance:AW wzo zk).eq.symm;have hszo:w.heap.size≤wzo.heap.size:=(inferInstance:Ay w wzo).out;have hzkl:zk<wzk.heap.size:=(inferInstance:HB wzk zk 30 #[.slice none 0 0, .int .i64 0]).out.lt;have o1:As (only g) zo:=⟨fun e=>by have e':zo=g:=e;omega⟩;have o2:As (only g) zk:=⟨fun e=>by have e':zk=g:=e;omega⟩;have o3:As (only zk) zo:=⟨fun e=>by have e':zo=zk:=e;omega⟩;have nk:Nw w wzk:=inferInstance;have hszk:w.heap.size≤wzk.heap.size:=nk.out.size;refine(AV g d s wzk (HW0.out.chg nk.out (fun h=>h) (fun h=>h)) (by have:=HL.out;omega)).mono ?_;rw[←HN.out,←HS.out];rintro e w2 ⟨rfl,h2,c2⟩;have st2:Ag (only g) wzk w2:=⟨c2.out⟩;have hk2:HB w2 zk 30 #[.slice none 0 0, .int .i64 0]:=inferInstance;have ho2:HB w2 zo 30 #[.slice none 0 0, .int .i64 0]:=inferInstance;have hC2:Hid (Au (GE g zk) w w2):=Lib.hid ((nk.out.mono (T:=GE g zk) (fun _ _ h=>h.elim)).trans c2.out (fun _ _ h=> .inl h));have hs2:wzk.heap.size≤w2.heap.size:=c2.out.size;clear c2;go_wp2_with fail;go_loopw [5] (fun iv wr=>∃(k:Nat) (A1:Option Addr) (c1:Nat),k≤N∧k≤5∧iv= .int .i64 (k:Int)∧k≤c1∧Hid (Au (GE g zk) w wr)∧HO wr 23 32 A1 k c1 (cellsOf (hN S k))∧Aj wzk A1∧HB wr zk 30 #[.slice A1 k c1, .int .i64 0]∧HB wr zo 30 #[.slice none 0 0, .int .i64 0]∧Hid (Bn wr g d (hS S k))∧wzk.heap.size≤wr.heap.size) (fun iv _=>5 -(intOf iv).toNat)
 case atStart=>exact⟨0,none,0,Nat.zero_le _,Nat.zero_le _,rfl,Nat.le_refl _,hC2,⟨Cm.nil _ _ _⟩,Ck _,hk2,ho2,h2,hs2⟩
 case round=>
  clear st2 h2 hk2 ho2 hC2 hs2;obtain⟨k,A1,c1,hkN,hk5,rfl,hkc,hC,hO,hA1,hzk,hzo1,hR,hszr⟩:=hrel;obtain⟨Ar,nr,cr,hrd⟩:=hR.out.blk;have hsl:=QR S k;by_cases hgo:k<N∧(hS S k).e =false∧k≤4
  ·obtain⟨hlt,hee,hle4⟩:=hgo;have hltI:(k:Int)<N:=by omega
   have hleI:(k:Int)≤4:=by omega
   rw[hee] at hrd;have ogA:BW (only g) A1:=⟨fun ad e h=>by have h':ad.block=g:=h;have:=hA1.out ad e;omega⟩;have ozA:BW (only zk) A1:=⟨fun ad e h=>by have h':ad.block=zk:=h;have:=hA1.out ad e;omega⟩;have kbH:=Mq (hS S k).hsh;have orz:As (An A1) zk:=⟨fun⟨ad,e,h⟩=>by have:=hA1.out ad e;omega⟩;have oro:As (An A1) zo:=⟨fun⟨ad,e,h⟩=>by have:=hA1.out ad e;omega⟩;have hCr:=hC;have nR:=hR;clear hC hR;go_wp2_with (first|(refine ZJ hrd ?_)|(refine Ct ?_)|(refine CG ?_));refine Ah ((rg3 g zk A1)) (by kernel_rfl) (fun wd _ _=> ?_);refine YS 0 ?_;refine YS 2 ?_;refine wpAnyH_ready (rs:=[1,3]) (by kernel_rfl) (by simp) (AllReadyH.cons rfl (fun K_ hK_=> ?_) (AllReadyH.cons rfl (fun K_ hK_=> ?_) AllReadyH.nil))
   focus
    refine Yq ?_
    (refine GU ?_)
    refine Yn hK_ ?_;clear hK_ K_;refine Yg 3 fun K_ hK_=> ?_
    go_simp;refine(Hk (nR.out.chg (Aa (w0:=wr)).chg (fun h=>h) (fun h=>h)) (by omega)).mono ?_;rintro e w5 ⟨rfl,st5,h5⟩;refine Yz hK_ ?_;clear hK_ K_;refine Yh 4 fun K_ hK_=> ?_
    (refine BM 28 (kbH _) ?_;intro zb wb _ _ _)
    refine Yn hK_ ?_;clear hK_ K_;refine Yh 5 fun K_ hK_=> ?_
    ((with_reducible apply FN);exact rfl;exact rfl;infer_instance;infer_instance;infer_instance;omega;intro L2 lc2 wa _ _ hG hcap2)
    refine Yn hK_ ?_;clear hK_ K_;refine YS 6 ?_;refine Yh 7 fun K_ hK_=> ?_
    (refine KZ ?_;intro ws _ _)
    refine Ym hK_ ?_;clear hK_ K_;refine Yd ?_
   rotate_left 1
   focus
    go_simp;refine(Hk (nR.out.chg (Aa (w0:=wr)).chg (fun h=>h) (fun h=>h)) (by omega)).mono ?_;rintro e w5 ⟨rfl,st5,h5⟩;refine Yz hK_ ?_;clear hK_ K_;refine wpAnyH_ready (rs:=[1,4]) (by kernel_rfl) (by simp) (AllReadyH.cons rfl (fun K_ hK_=> ?_) (AllReadyH.cons rfl (fun K_ hK_=> ?_) AllReadyH.nil))
    focus
     refine Yq ?_
     (refine GU ?_)
     refine Yn hK_ ?_;clear hK_ K_;refine Yh 4 fun K_ hK_=> ?_
     (refine BM 28 (kbH _) ?_;intro zb wb _ _ _)
     refine Yn hK_ ?_;clear hK_ K_;refine Yh 5 fun K_ hK_=> ?_
     ((with_reducible apply FN);exact rfl;exact rfl;infer_instance;infer_instance;infer_instance;omega;intro L2 lc2 wa _ _ hG hcap2)
     refine Yn hK_ ?_;clear hK_ K_;refine YS 6 ?_;refine Yh 7 fun K_ hK_=> ?_
     (refine KZ ?_;intro ws _ _)
     refine Ym hK_ ?_;clear hK_ K_;refine Yd ?_
    rotate_left 1
    focus
     refine Yq ?_
     (refine BM 28 (kbH _) ?_;intro zb wb _ _ _)
     refine Yn hK_ ?_;clear hK_ K_;refine Yh 1 fun K_ hK_=> ?_
     (refine GU ?_)
     refine Yn hK_ ?_;clear hK_ K_;refine Yh 5 fun K_ hK_=> ?_
     ((with_reducible apply FN);exact rfl;exact rfl;infer_instance;infer_instance;infer_instance;omega;intro L2 lc2 wa _ _ hG hcap2)
     refine Yn hK_ ?_;clear hK_ K_;refine YS 6 ?_;refine Yh 7 fun K_ hK_=> ?_
     (refine KZ ?_;intro ws _ _)
     refine Ym hK_ ?_;clear hK_ K_;refine Yd ?_
    rotate_left 1
   rotate_left 2
   all_goals
    have HNX:Hid (hN S k++[(hS S k).hsh]=hN S (k+1)):=Lib.hid rfl;have hcA:Au (An A1) w5 wa:=(inferInstance:Ch (An A1) w5 wa).out;have hcS:Au (only zk) wa ws:=(inferInstance:Ag (only zk) wa ws).chg;have hc5:Au (only g) wr w5:=(inferInstance:Ch (only g) wr w5).out;have hA2:Aj wzk L2:=GC hG hA1 (by
     have h1:=(inferInstance:Ay w5 wb).out;have h2:=hc5.size;omega)
    go_wp2_with fail;refine⟨⟨k+1,L2,lc2,by omega,by omega,by go_num,hcap2,Lib.hid ?_, ?_,hA2,inferInstance,inferInstance,Lib.hid ?_, ?_⟩,by simp[intOf];omega⟩
    ·exact((hCr.out.trans hc5 (fun _ _ h=> .inl h)).trans hcA (fun x hx ⟨ad,e,h⟩=>by have:=hA1.out ad e;omega)).trans hcS (fun _ _ h=> .inr h)
    ·rw[←HNX.out];infer_instance
    ·exact(h5.out.far hcA (m:=w.heap.size) (fun x ⟨ad,e,h⟩=>by rw[←h];have:=hA1.out ad e;omega) hgl (fun h=>hSd (Ab8 (k:=k+1) h))).far hcS (m:=w.heap.size) (fun x h=>by have h':x=zk:=h;omega) hgl (fun h=>hSd (Ab8 (k:=k+1) h))
    have h1:=(inferInstance:Ay w5 wb).out;have h2:=hc5.size;have h3:=(inferInstance:Ay wb ws).out;omega
  have HGQ:Hid (Ny s (hN S k) (hS S k).num.1 (hS S k).num.2):=Lib.hid (by
    refine⟨k,hk5,by rw[←HN.out];exact hkN, ?_,by rw[HS.out],by rw[HS.out],by rw[HS.out]⟩;rw[←HN.out,←HS.out];cases hee:(hS S k).e
    ·by_cases hlt:k<N
     ·exact .inr (.inl (by have: ¬k≤4:=fun h=>hgo ⟨hlt,hee,h⟩;omega))
     exact .inl (by omega)
    exact .inr (.inr rfl))
  have hcase:(¬k<N)∨(k<N∧(hS S k).e =true)∨(k<N∧(hS S k).e =false∧¬k≤4):=by
   by_cases hlt:k<N
   ·cases hee:(hS S k).e
    ·exact .inr (.inr ⟨hlt,rfl,fun h=>hgo ⟨hlt,hee,h⟩⟩)
    exact .inr (.inl ⟨hlt,rfl⟩)
   exact .inl hlt
  obtain⟨nd,hnd⟩: ∃nd,nd=(hS S k).num.1 :=⟨_,rfl⟩;have HND:=Lib.hid hnd;have hCr:=hC;have nR:=hR;clear hgo hC hR hnd;rcases hcase with hlt|⟨hlt,hee⟩|⟨hlt,hee,hle4⟩
  focus
   have hltI: ¬(k:Int)<N:=by omega
   clear hlt;go_wp2_with fail;refine(AV g d (hS S k) wr nR.out (by omega)).mono ?_
  rotate_left
  focus
   have hltI:(k:Int)<N:=by omega
   rw[hee] at hrd;clear hlt hee;go_wp2_with (first|(refine ZJ hrd ?_)|(refine Ct ?_)|(refine CG ?_));refine(AV g d (hS S k) wr nR.out (by omega)).mono ?_
  rotate_left
  focus
   have hltI:(k:Int)<N:=by omega
   have hleI: ¬(k:Int)≤4:=by omega
   rw[hee] at hrd;clear hlt hee hle4;go_wp2_with (first|(refine ZJ hrd ?_)|(refine Ct ?_)|(refine CG ?_));refine(AV g d (hS S k) wr nR.out (by omega)).mono ?_
  rotate_left
  all_goals
   rw[←HND.out];rintro e w7 ⟨rfl,h7,c7⟩;have st7:Ag (only g) wr w7:=⟨c7.out⟩;have hzk7:HB w7 zk 30 #[.slice A1 k c1, .int .i64 0]:=inferInstance;have hzo7:HB w7 zo 30 #[.slice none 0 0, .int .i64 0]:=inferInstance;have hO7:Rd w7 A1 (cellsOf (hN S k)):=(hO.out.rd).chg c7.out (fun _ ad e h=>by have h':ad.block=g:=h;have:=hA1.out ad e;omega);have HO7:=Lib.hid hO7;have hkey:(Af.enc (⟨A1,k,c1,hN S k,(nd:Int)⟩:KR)).toArray =#[.slice A1 k c1, .int .i64 (nd:Int)]:=rfl;have HKE:=Lib.hid hkey;clear hO7 hkey c7;go_wp2_with (first|(refine Cp ?_)|(refine Bt ?_;intro ws _ _)|(refine KZ ?_;intro ws _ _));have hcF:Au (GE zk zo) w7 ws:=(inferInstance:Ch (GE zk zo) w7 ws).out;refine Bo rfl rfl (n:=2) rfl rfl ⟨⟨A1,k,c1,hN S k,(nd:Int)⟩,nd,(hS S k).num.2, ?_,⟨?_⟩,Lib.hid ?_,Lib.hid ⟨?_,rfl⟩,Lib.hid ⟨⟨?_,Sd S k,hkc,by show k≤1000;omega⟩,⟨fun ad e=>Nat.le_trans hszk (hA1.out ad e)⟩⟩⟩
   ·rfl
   ·exact((hCr.out.mono (T:=only g) (fun x hx h=>by
      rcases h with h|h
      ·exact h
      omega)).trans st7.chg (fun _ _ h=>h)).trans hcF (fun x hx h=>by rcases h with h|h<;>omega)
   ·exact h7.out.far hcF (m:=w.heap.size) (fun x h=>by rcases h with h|h<;>omega) hgl (fun h=>hSd (Ab8 (k:=k) (Ab9 h)))
   ·rw[HND.out];exact HGQ.out
   exact HO7.out.chg hcF (fun _ ad e h=>by
   have h1:=hA1.out ad e;rcases h with h|h<;>omega)
end Go.Proofs.YtjjhceeookpieaaGreat
end
section
set_option maxRecDepth 100000
set_option maxHeartbeats 3200000
open Go Go.RowKit
namespace Go.Proofs.YtjjhceeookpieaaGreat
theorem Ny.le {s s':RS} {l:List Ak} {need:Nat} (h:Ny s l need s'):s'.b.length≤s.b.length:=by
 obtain⟨j,_,_,_,_,_,rfl⟩:=h;exact Nat.le_trans (RS.num_le _) (Nat.le_trans (QR _ _) (RS.num_le s))
theorem HB.row_eqR {w:World} {g:Nat} {t:TypeId} {cs ds:Array Value} (h:HB w g t cs) (e:cs=ds):HB w g t ds:=e▸h
theorem Nw.hrR {w w':World} (n:Nw w w') {A:Option Addr} {vs:List Value} (h:Rd w A vs):HR w' A vs:=HR.step Ab w w' A _ (h:=⟨h⟩) (s:=⟨n.out⟩)
theorem Zc (v:Int) (w:World):(Instr.build 33 #[(0, .int .i64 v),(1, .int .i64 0)]).run Tryz.prog w= .ok (.agg (BA v 0 DJ).toArray) w:=by kernel_rfl
theorem Hh {A:Option Addr} {n c:Nat} {b:List UInt8} {w:World} [hr:HR w A (bs b)] (hl:b.length=n) (hcap:n≤c) (hn:n≤140737488351232):
    Calls Tryz.prog 74 #[.slice A n c] w (Aff b w):=by
 obtain⟨S,hS⟩: ∃S,S=AO 1 b:=⟨_,rfl⟩;obtain⟨S2,hS2⟩: ∃S2,S2=S.at 2:=⟨_,rfl⟩;obtain⟨V,hV⟩: ∃V,V=S.num.1:=⟨_,rfl⟩;obtain⟨X,hX⟩: ∃X,X=(S.at 1).num.1 :=⟨_,rfl⟩;have hSl:S.b.length≤140737488351232:=by
  have:=Ir 1 b;rw[←hS] at this;omega
 have hSb:S.b≠[]→b≠[]:=fun h h0=>by
  have:=Ir 1 b;rw[←hS,h0] at this;exact h (List.eq_nil_of_length_eq_zero (by simpa using this))
 have hS2l:S2.b.length≤S.b.length:=by rw[hS2];exact S.at_le 2
 have hM:ZG b=if EP b then((V:Int),(X:Int),kK S2 4,(0:Int)) else(0,0,DJ.map KR.m,2):=by
  rw[ZG,Pt,Zd,Nz,←hS,←hV,←hX,←hS2]
 have hRF: ∀(K:List (List Ak×Int)) (s':RS),Mr 4 S2 K s'→(Cv s'&&FW V X K&&decide (b=Dg V X K))=EP b∧(EP b=true→K=kK S2 4):=fun K s' h=>by
  have h1:=Agh (b:=b) (K:=K) (s':=s') (by rw[Nz,←hS,←hS2];exact h);rwa[Pt,Zd,Nz,←hS,←hV,←hX,←hS2] at h1
 have HM:=Lib.hid hM;have HRF:=Lib.hid hRF;have HRR:=Lib.hid hr.out;have HS:=Lib.hid hS;have HV:Hid (S.num.1=V):=Lib.hid hV.symm;have HX:Hid ((S.at 1).num.1 =X):=Lib.hid hX.symm;have HS2:Hid (S.at 2=S2):=Lib.hid hS2.symm;have HLE:=Lib.hid hl;have kb0: ∀w,(Instr.build 33 #[]).run Tryz.prog w= .ok (.agg (BA 0 0 DJ).toArray) w:=fun _=>by kernel_rfl
 have kbV:=Zc (V:Int);unfold Aff;clear hS hS2 hV hX hM hRF;go_enter Tryz.func74,Tryz.ntmps74;go_wp2_with (first|(refine BB 2 ?_;intro zo wzo _ _ _));have hro:HR wzo A (bs b):=⟨HRR.out.later (Aa (w0:=w) (w:=wzo)).chg⟩;have hzow:w.heap.size≤zo:=Nat.le_of_eq (inferInstance:AW w zo).eq.symm;refine(FL (kind:=1) (b:=b) HLE.out hcap hn).mono ?_;rintro e w5 ⟨zr,d,rfl,_,hzr,hltr,h5,hdw⟩;rw[←HS.out] at h5;have hszo:w.heap.size≤wzo.heap.size:=(inferInstance:Ay w wzo).out;have hzw:w.heap.size≤zr:=Nat.le_trans hszo hzr;have ag:Cn w (only zr):=⟨fun k h=>by have h':k=zr:=h;omega⟩;have hzol:=(inferInstance:HB wzo zo 33 (BA 0 0 DJ).toArray).out.lt;have ozr:As (only zr) zo:=⟨fun e=>by have e':zo=zr:=e;omega⟩;have hd5:S.b≠[]→d<w5.heap.size:=fun h=>h5.out.dlt h
 have H5:=Lib.hid h5;clear h5;go_wp2_with fail;refine(AV zr d S _ H5.out.out (by omega)).mono ?_;rw[HV.out];rintro e w6 ⟨rfl,h6,c6⟩;have st6:Ag (only zr) w5 w6:=⟨c6.out⟩;have hs6:w5.heap.size≤w6.heap.size:=c6.out.size;have hlV0:(BA (V:Int) 0 DJ).toArray.size =10:=rfl;have hoV0:=Bq (V:Int) 0 DJ;go_wp2_with (first|(refine Ji (kbV _) ?_)|(refine BB 5 ?_;intro zt wzt _ _ _)|(refine Bt ?_;intro ws _ _));have hzt:w6.heap.size≤zt:=Nat.le_of_eq (inferInstance:AW w6 zt).eq.symm;have hztl:zt<wzt.heap.size:=(inferInstance:HB wzt zt 33 (BA 0 0 DJ).toArray).out.lt;have otr:As (only zr) zt:=⟨fun e=>by have e':zt=zr:=e;omega⟩;have hs5:wzo.heap.size≤w5.heap.size:=(inferInstance:Ay wzo w5).out;have hst:w6.heap.size≤wzt.heap.size:=(inferInstance:Ay w6 wzt).out;have at_:Cn w (only zt):=⟨fun k h=>by have h':k=zt:=h;omega⟩;have htV:HB ws zt 33 (BA V 0 DJ).toArray :=inferInstance;have far: ∀(s:RS) (w1 w2:World),s.b.length≤S.b.length→Ag (only zt) w1 w2→Bn w1 zr d s→Bn w2 zr d s:=fun s w1 w2 hs st h=>h.chg2 st.chg (fun e=>by have e':zr=zt:=e;omega) (fun hne e=>by have e':d=zt:=e;have:=hd5 (Fx hs hne);omega)
 have l1:(S.at 1).b.length ≤S.b.length:=S.at_le 1;have H6b:=Lib.hid (far (S.at 1) wzt ws l1 inferInstance (h6.out.chg (Aa (w0:=w6) (w:=wzt)).chg (fun h=>h) (fun h=>h)));refine(AV zr d (S.at 1) _ H6b.out (by omega)).mono ?_;rw[HX.out];rintro e w7 ⟨rfl,h7,c7⟩;have st7:Ag (only zr) ws w7:=⟨c7.out⟩;have ht7:HB w7 zt 33 (BA V 0 DJ).toArray :=inferInstance;have hk7:1<(BA (V:Int) 0 DJ).toArray.size :=by rw[hlV0];decide
 have hC7:Hid (Au (GE zr zt) wzt w7):=Lib.hid (((inferInstance:Ag (only zt) wzt ws).chg.mono (T:=GE zr zt) (fun _ _ h=> .inr h)).trans c7.out (fun _ _ h=> .inl h));have nw7:Nw w w7:=inferInstance;have hzo7:HB w7 zo 33 (BA 0 0 DJ).toArray :=inferInstance;have hszt:w.heap.size≤wzt.heap.size:=(inferInstance:Ay w wzt).out;clear htV h6 c6;go_wp2_with (first|((with_reducible apply AU);exact rfl;exact rfl;exact ht7;exact rfl;exact hk7;intro wk _ ht8r;have ht8:HB wk zt 33 (BA V X DJ).toArray :=HB.row_eqR ht8r rfl;clear ht8r));have hzo8:HB wk zo 33 (BA 0 0 DJ).toArray :=inferInstance;have H8:Hid (Bn wk zr d S2):=Lib.hid (far S2 w7 wk hS2l inferInstance (by rw[←HS2.out];exact h7.out));have hC8:Hid (Au (GE zr zt) wzt wk):=Lib.hid (hC7.out.trans (inferInstance:Ag (only zt) w7 wk).chg (fun _ _ h=> .inr h));clear h7 c7 ht7 hzo7 hC7;go_loopw [6] (fun iv wr=>∃(k:Nat) (K:List KR) (s':RS),k≤4∧iv= .int .i64 (k:Int)∧Hid (K.length=4∧Mr k S2 ((K.take k).map KR.m) s')∧Hid (Au (GE zr zt) wzt wr)∧HB wr zt 33 (BA V X K).toArray ∧HB wr zo 33 (BA 0 0 DJ).toArray ∧Hid (DV wzt wr K)∧Hid (Bn wr zr d s')∧s'.b.length≤S.b.length) (fun iv _=>4 -(intOf iv).toNat)
 case atStart=>exact⟨0,DJ,S2,Nat.zero_le _,rfl,Lib.hid ⟨rfl,rfl,rfl⟩,hC8,ht8,hzo8,Lib.hid (DV.none _ _),H8,hS2l⟩
 case round=>
  clear ht8 hzo8 H8 hC8;obtain⟨k,K,s',hk,rfl,hKl,hC,ht,hzo,hKs,hR,hsl⟩:=hrel;by_cases hlt:k<4
  ·have hltI:(k:Int)<4:=by omega
   have hkl:k<K.length:=by rw[hKl.out.1];exact hlt
   go_wp2_with fail;refine(IX hR.out (by omega)).mono ?_;rintro e w9 ⟨x,need,s2,rfl,st9,h9,hx,hki⟩;have ht9:HB w9 zt 33 (BA V X K).toArray :=inferInstance;have hzo9:HB w9 zo 33 (BA 0 0 DJ).toArray :=inferInstance;have hKs9:=hKs.out.chg st9.chg (fun x h=>by have h':x=zr:=h;omega);have hxA:Aj wzt x.A:=⟨fun ad e=>Nat.le_trans hC.out.size (hki.out.2.out ad e)⟩;have HK9:=Lib.hid (hKs9.set k hki.out.1 hxA);have hs2l:=Nat.le_trans hx.out.1.le hsl;clear hKs9 hki hxA;go_wp2_with (first|((with_reducible apply(CD (i:=k) (m:=4)));exact rfl;exact rfl;exact Tryz.underlying31;(kernel_rfl);exact hlt)|((with_reducible apply(Jx (i:=k) (k:=x)));exact rfl;exact rfl;exact ht9;infer_instance;exact hkl;intro ws _ hts));refine⟨⟨k+1,K.set k x,s2,by omega,by go_num,Lib.hid ⟨?_, ?_⟩,Lib.hid ?_,hts,inferInstance,Lib.hid ?_,Lib.hid ?_,hs2l⟩,by simp[intOf];omega⟩
   ·rw[List.length_set];exact hKl.out.1
   ·rw[Se _ _ _ _ hkl];exact⟨_,s',x.l,need,hKl.out.2,hx.out.1,by rw[KR.m,hx.out.2]⟩
   ·exact(hC.out.trans (st9.chg.mono (T:=GE zr zt) (fun _ _ h=> .inl h)) (fun _ _ h=>h)).trans (inferInstance:Ag (only zt) w9 ws).chg (fun _ _ h=> .inr h)
   ·exact HK9.out.chg (inferInstance:Ag (only zt) w9 ws).chg (fun x h=>by have h':x=zt:=h;omega)
   exact far s2 w9 ws hs2l inferInstance h9.out
  have hltI: ¬(k:Int)<4:=by omega
  obtain rfl:k=4:=by omega
  have hlK:=BG V X K hKl.out.1;have hoK:=Bq V X K;have hG:Mr 4 S2 (K.map KR.m) s':=by
   have h9:=hKl.out.2;rwa[List.take_of_length_le (by rw[hKl.out.1];exact Nat.le_refl _)] at h9
  have hRF:=HRF.out _ _ hG;rw[Aba] at hRF;have HF:=Lib.hid hRF;have nwr:Nw w wr:=⟨((Aa (w0:=w) (w:=wzt)).chg).trans hC.out (fun x hx h=>by rcases h with h|h<;>omega)⟩;have HIN:Hid (∀k∈K,BN wr k):=Lib.hid (fun k hk=>(hKs.out k hk).1);obtain⟨I,hI⟩: ∃I,I=Dc V X K:=⟨_,rfl⟩;have HI:=Lib.hid hI;clear hG hRF hI;go_wp2_with (first|((with_reducible apply BP);exact rfl;exact ht;infer_instance;exact hlK));refine(LB V X K hKl.out.1 HIN.out).mono ?_;unfold AR;rw[←HI.out] at HF⊢;cases I
  case false=>
   have HNO:Hid (EP b=false):=Lib.hid (by rw[←HF.out.1];simp);rintro e w12 ⟨st12,h12⟩;obtain rfl:e=_:=h12;go_wp2_with fail;have nw12:Nw w w12:=inferInstance;have hb12:HR w12 A (bs b):=nw12.hrR HRR.out;have hn12:HR w12 none (bs []):=HR.nilB w12;have HR12:Bn w12 zr d s':=hR.out.chg st12.chg (fun h=>h) (fun h=>h);have hzo12:HB w12 zo 33 (BA 0 0 DJ).toArray :=inferInstance;refine(DP (b:=b) (y:=[]) (e0:=1) HR12 (by omega) HLE.out rfl).mono ?_;rw[show(Cv s'&&decide ((1:Int)=0)&&decide (b=[]))=false by simp];rintro e w13 ⟨rfl,rfl⟩;go_wp2_with (first|(refine NN rfl rfl (Bq _ _ _) ?_;intro ws _ _)|(refine Ji (kb0 _) ?_));refine AA rfl rfl rfl (n:=10) rfl rfl ⟨Aa,0,0,DJ,2,rfl,Lib.hid ⟨rfl, ?_⟩,Lib.hid (DV.none _ _)⟩;rw[HM.out,HNO.out];rfl
  case true=>
   rintro e w12 ⟨st12,A5,n5,c5,rfl,hn5,hO5,hA5⟩;have HN5:=Lib.hid hn5;have HO5:=Lib.hid hO5.out.rd;clear hn5 hO5;go_wp2_with fail;have nw12:Nw w w12:=inferInstance;have hb12:HR w12 A (bs b):=nw12.hrR HRR.out;have hE:Ae [1]++(Ae [(V:Int),(X:Int)]++CO K)=Dg V X (K.map KR.m):=by rw[Dg,Fm]
   have hy12:HR w12 A5 (bs (Dg V X (K.map KR.m))):=⟨by rw[←hE];exact HO5.out⟩;have hny:(Dg V X (K.map KR.m)).length =n5:=by rw[←hE];exact HN5.out.symm
   have HR12:Bn w12 zr d s':=hR.out.chg st12.chg (fun h=>h) (fun h=>h);have HNY:=Lib.hid hny;clear hE hny HO5 HN5;refine(DP (b:=b) (y:=Dg V X (K.map KR.m)) (e0:=0) HR12 (by omega) HLE.out HNY.out).mono ?_;have e9:(Cv s'&&decide ((0:Int)=0)&&decide (b=Dg V X (K.map KR.m)))=EP b:=HF.out.1;rw[e9];clear e9;have ht12:HB w12 zt 33 (BA V X K).toArray :=inferInstance;have hzo12:HB w12 zo 33 (BA 0 0 DJ).toArray :=inferInstance;cases hOK:EP b
   case false=>
    have HNO:=Lib.hid hOK;clear hOK;rintro e w13 ⟨rfl,rfl⟩;go_wp2_with (first|(refine NN rfl rfl (Bq _ _ _) ?_;intro ws _ _)|(refine Ji (kb0 _) ?_));refine AA rfl rfl rfl (n:=10) rfl rfl ⟨Aa,0,0,DJ,2,rfl,Lib.hid ⟨rfl, ?_⟩,Lib.hid (DV.none _ _)⟩;rw[HM.out,HNO.out];rfl
   case true=>
    have HYE:Hid (ZG b=((V:Int),(X:Int),K.map KR.m,(0:Int))):=Lib.hid (by rw[HM.out,hOK,HF.out.2 hOK];rfl);clear hOK;rintro e w13 ⟨rfl,rfl⟩;go_wp2_with (first|((with_reducible apply BP);exact rfl;exact ht12;infer_instance;exact hlK)|(refine Bt ?_;intro ws _ _));refine AA rfl rfl rfl (n:=10) hlK rfl ⟨Aa,V,X,K,0,rfl,Lib.hid ⟨hKl.out.1,HYE.out.symm⟩,Lib.hid ?_⟩;exact DV.first (w1:=wzt) (hKs.out.chg (inferInstance:Ch (only zo) wr ws).out (fun x h=>by have h':x=zo:=h;omega)) hszt
end Go.Proofs.YtjjhceeookpieaaGreat
end
section
open Go Go.RowKit Go.WideMaps
namespace Go.Proofs.YtjjhceeookpieaaGreat
structure Em where
 M:Option Addr
 nb:Nat
 cb:Nat
 A:Option Addr
 n:Nat
 c:Nat
 m:List UInt8
 l:List AC
instance Ajj:Af Em:=⟨2,fun k=>[.slice k.M k.nb k.cb, .slice k.A k.n k.c],fun _=>rfl,fun k u hu=>by
 simp only[List.mem_cons,List.not_mem_nil,or_false] at hu;rcases hu with rfl|rfl<;>rfl,⟨none,0,0,none,0,0,[],[]⟩⟩
structure Cc (w:World) (r:Em):Prop where
 mr:Rd w r.M (bs r.m)
 ar:Rd w r.A (cellsOf r.l)
 marks: ∀x∈r.l,CC w x
 ml:r.m.length=r.nb
 mc:r.nb≤r.cb
 al:r.l.length=r.n
 ac:r.n≤r.c
 an:r.n≤9223372036854775807
 mn:r.nb≤140737488351232
theorem Cc.nw {w0 w:World} [n:Nw w0 w] {r:Em} (h:Cc w0 r):Cc w r:=⟨h.mr.chg n.out (fun _ _ _ h=>h),h.ar.chg n.out (fun _ _ _ h=>h),fun x hx=>CC.nw (h.marks x hx),h.ml,h.mc,h.al,h.ac,h.an,h.mn⟩
instance Ajk:Bm Tryz.prog 54 58 2 48 (.agg #[.slice none 0 0, .slice none 0 0]):=⟨⟨Tryz.underlying54,by kernel_rfl,rfl,by decide⟩⟩
instance Ajl:Eb Tryz.prog 58 #[.slice none 0 0, .slice none 0 0]:=⟨.agg #[.slice none 0 0, .slice none 0 0],fun _=>by kernel_rfl,rfl⟩
instance Ahg:AL Tryz.prog 56:=⟨fun _=>by kernel_rfl,fun _=>by kernel_rfl⟩
theorem ZU (r:Em):Eg (Af.enc r) 0=some (.slice r.M r.nb r.cb):=rfl
section
variable {P:Program} {a:Act} {w:World} {dst:Option Tmp} {ty:TypeId} {pos:String} {after:Array Edge} {gd:Option (Nat×Bool)}
end
def Aky (w w':World) (e:Ending):Prop:=(∃b:Bool,e= .returned (.bool b))∧Ag Ab w w'
end Go.Proofs.YtjjhceeookpieaaGreat
end
section
set_option maxRecDepth 100000
set_option maxHeartbeats 3200000
open Go Go.RowKit
namespace Go.Proofs.YtjjhceeookpieaaGreat
abbrev Fg:=Int×Int×List (List Ak×Int)
def MM (r:List (List Ak×Int)):List Ak×Int:=r.getD 0 ([],0)
theorem Qr (K:List KR) (h:0<K.length):MM (K.map KR.m)=(gt K 0).m :=by
 rcases K with _|⟨a,K⟩
 ·simp at h
 rfl
def Gi (r:Fg) (m:List UInt8) (l:List AC):Int×Int×List (List Ak×Int)×Int:=
 if EP m then
  if(Pt m:Int) -1=r.1 then
   if BC m l (MM r.2.2).1 (MM r.2.2).2&&BC m l (MM (kK (Nz m) 4)).1 (MM (kK (Nz m) 4)).2 then(Pt m,Zd m,kK (Nz m) 4,0) else(0,0,DJ.map KR.m,4)
  else(0,0,DJ.map KR.m,6)
 else(0,0,DJ.map KR.m,2)
def Af8 (r:Fg) (m:List UInt8) (l:List AC) (w:World):Ending→World→Prop:=fun e w'=>Ag Ab w w'∧∃v x K err,e= .returned (.tuple #[.agg (BA v x K).toArray, .int .i64 err])∧Hid (K.length=4∧(v,x,K.map KR.m,err)=Gi r m l)∧Hid (DV w w' K)
theorem Afw {m:List UInt8} (h:EP m=true):1≤(Pt m:Int)∧(Pt m:Int)≤1073741824:=by
 unfold EP at h;rw[Bool.and_eq_true] at h;have h1:=h.2;unfold FW BE at h1;simp only[Bool.and_eq_true,decide_eq_true_eq] at h1;exact h1.1.1
theorem Afx {m:List UInt8} (h:EP m=true): ∀k∈kK (Nz m) 4,k.1.length≤4:=by
 unfold EP at h;rw[Bool.and_eq_true] at h;exact QT h.2
theorem MN (v e0:Int) (K:List KR) (h4:K.length=4) (E:Em) {w:World} (hK: ∀k∈K,BN w k) (hE:Cc w E):
    Calls Tryz.prog 75 #[.agg (BA v e0 K).toArray, .agg (Af.enc E).toArray] w (Af8 (v,e0,K.map KR.m) E.m E.l w):=by
 have HE:=Lib.hid hE;have HK:=Lib.hid hK;have H4:=Lib.hid h4;have hlen:=BG v e0 K h4;have hone:=Bq v e0 K;have hse:(Af.enc E).toArray.size =2:=rfl;have kb0: ∀w,(Instr.build 33 #[]).run Tryz.prog w= .ok (.agg (BA 0 0 DJ).toArray) w:=fun _=>by kernel_rfl
 obtain⟨N,hN⟩: ∃N,N=Gi (v,e0,K.map KR.m) E.m E.l:=⟨_,rfl⟩;have HN:Hid (N=if EP E.m then if(Pt E.m:Int) -1=v then if BC E.m E.l (gt K 0).l (gt K 0).need &&BC E.m E.l (MM (kK (Nz E.m) 4)).1 (MM (kK (Nz E.m) 4)).2 then((Pt E.m:Int),(Zd E.m:Int),kK (Nz E.m) 4,(0:Int)) else(0,0,DJ.map KR.m,4) else(0,0,DJ.map KR.m,6) else(0,0,DJ.map KR.m,2)):=Lib.hid (by
  rw[hN,Gi,Qr K (by omega)];rfl)
 unfold Af8;rw[←hN];clear hN hE hK h4;go_enter Tryz.func75,Tryz.ntmps75;go_wp2_with (first|(refine Bv 2 ?_;intro z2 wz2 _ _ _)|(refine Bv 3 ?_;intro z3 wz3 _ _ _)|(refine BB 4 ?_;intro zo wzo _ _ _)|(refine GU ?_));have hszo:w.heap.size≤wzo.heap.size:=(inferInstance:Ay w wzo).out;have hzol:zo<wzo.heap.size:=(inferInstance:HB wzo zo 33 (BA 0 0 DJ).toArray).out.lt;have n0:Nw w wzo:=inferInstance;have hm0:HR wzo E.M (bs E.m):=⟨(Cc.nw (w:=wzo) HE.out).mr⟩;refine(Hh (b:=E.m) HE.out.ml HE.out.mc HE.out.mn).mono ?_;rintro e w5 ⟨_,v1,x1,K1,err1,rfl,NH,hKs1⟩;have hl1:=BG v1 x1 K1 NH.out.1;have ho1:=Bq v1 x1 K1;have n5:Nw wzo w5:=inferInstance;have ho5:HB w5 zo 33 (BA 0 0 DJ).toArray :=inferInstance;have hz2:HB w5 z2 33 (BA v e0 K).toArray :=inferInstance;have hz3:HB w5 z3 58 (Af.enc E).toArray :=inferInstance;by_cases hok:EP E.m=true
 ·have hm1:=NH.out.2;rw[ZG,if_pos hok] at hm1;obtain⟨hv1,hq1⟩:=Prod.mk.inj hm1;obtain⟨hx1,hq2⟩:=Prod.mk.inj hq1;obtain⟨hk1,he1⟩:=Prod.mk.inj hq2;have hvb:=Afw hok;rw[←hv1] at hvb;obtain⟨hvb1,hvb2⟩:=hvb;have hkl:=Afx hok;have l1:0<K1.length:=by rw[NH.out.1];decide
  have l0:0<K.length:=by rw[H4.out];decide
  have HR1:Hid (MM (kK (Nz E.m) 4)=(gt K1 0).m):=Lib.hid (by rw[←hk1,Qr K1 l1]);have HNV:Hid (N=if v1 -1=v then if BC E.m E.l (gt K 0).l (gt K 0).need &&BC E.m E.l (gt K1 0).l (gt K1 0).need then(v1,x1,K1.map KR.m,(0:Int)) else(0,0,DJ.map KR.m,4) else(0,0,DJ.map KR.m,6)):=Lib.hid (by
   rw[HN.out,if_pos hok,HR1.out,←hv1,←hx1,←hk1];rfl)
  subst he1;clear hm1 hv1 hx1 hk1 hq1 hq2 hkl HN hok;by_cases hv:v1 -1=v
  ·have HNV2:Hid (N=if BC E.m E.l (gt K 0).l (gt K 0).need &&BC E.m E.l (gt K1 0).l (gt K1 0).need then(v1,x1,K1.map KR.m,(0:Int)) else(0,0,DJ.map KR.m,4)):=Lib.hid (by rw[HNV.out,if_pos hv]);subst hv;clear HNV;have HKI:Hid (BN w (gt K 0)):=Lib.hid (HK.out _ (BD K 0 l0));obtain⟨B1,hB1⟩: ∃B,B=BC E.m E.l (gt K 0).l (gt K 0).need :=⟨_,rfl⟩;have HB1:=Lib.hid hB1;clear hB1;go_wp2_with (first|((with_reducible apply(Bu (dst:=some 29)));(with_reducible apply(CD (i:=0) (m:=4)));exact rfl;exact rfl;exact Tryz.underlying31;(kernel_rfl);(decide))|((with_reducible apply(Bu (dst:=some 30)));(with_reducible apply(Ex (i:=0)));exact rfl;infer_instance;infer_instance;exact l0)|(refine BB 6 ?_;intro zn wzn _ _ _)|(refine Cp ?_)|(refine GU ?_)|(refine Bt ?_;intro ws _ _));have hzn:HB ws zn 33 (BA v1 x1 K1).toArray :=inferInstance;have n6:Nw w ws:=inferInstance;have hE6:=Cc.nw (w:=ws) HE.out;have hm6:HR ws E.M (bs E.m):=⟨hE6.mr⟩;have ha6:HR ws E.A (cellsOf E.l):=⟨hE6.ar⟩;have hk6:HR ws (gt K 0).A (cellsOf (gt K 0).l):=⟨(BN.nw (w:=ws) HKI.out).rd⟩;clear hE6;refine(EH (m:=E.m) (l:=E.l) (ks:=(gt K 0).l) (gt K 0).need (fun r hr=>CC.nw (w0:=w) (w:=ws) (HE.out.marks r hr)) HE.out.al HE.out.an HE.out.ml HE.out.mn HKI.out.len (Nat.le_trans HKI.out.le (by decide))).mono ?_;rw[←HB1.out];rintro e w7 ⟨rfl,_⟩;have n7:Nw wzo w7:=inferInstance;have ho7:HB w7 zo 33 (BA 0 0 DJ).toArray :=inferInstance;have hz37:HB w7 z3 58 (Af.enc E).toArray :=inferInstance;have hzn7:HB w7 zn 33 (BA v1 x1 K1).toArray :=inferInstance;cases B1 with
   |false=>
    go_wp2_with (first|go_skip|(refine Ji (kb0 _) ?_)|((with_reducible apply DR);exact rfl;exact rfl;infer_instance;infer_instance;exact rfl;(first|(exact rfl)|exact hl1);(first|(exact Bq _ _ _)|exact ho1);intro ws _ _));refine AA rfl rfl rfl (n:=10) rfl rfl ⟨Aa,0,0,DJ,4,rfl,Lib.hid ⟨rfl, ?_⟩,Lib.hid (DV.none _ _)⟩;rw[HNV2.out,←HB1.out];rfl
   |true=>
    have n7w:Nw w w7:=inferInstance;have hE7:=Cc.nw (w:=w7) HE.out;have hm7:HR w7 E.M (bs E.m):=⟨hE7.mr⟩;have ha7:HR w7 E.A (cellsOf E.l):=⟨hE7.ar⟩;have HKJ:Hid (BN w7 (gt K1 0)):=Lib.hid ((hKs1.out _ (BD K1 0 l1)).1.chg (inferInstance:Nw w5 w7).out (fun _ _ h=>h));have hk7:HR w7 (gt K1 0).A (cellsOf (gt K1 0).l):=⟨HKJ.out.rd⟩;obtain⟨B2,hB2⟩: ∃B,B=BC E.m E.l (gt K1 0).l (gt K1 0).need :=⟨_,rfl⟩;have HB2:=Lib.hid hB2;clear hE7 hB2;go_wp2_with (first|(refine Ct ?_)|(refine WGI ?_)|((with_reducible apply(Bu (dst:=some 36)));(with_reducible apply(CD (i:=0) (m:=4)));exact rfl;exact rfl;exact Tryz.underlying31;(kernel_rfl);(decide))|((with_reducible apply(Bu (dst:=some 37)));(with_reducible apply(Ex (i:=0)));exact rfl;exact hzn7;infer_instance;exact l1)|(refine CG ?_)|(refine Cp ?_));refine(EH (m:=E.m) (l:=E.l) (ks:=(gt K1 0).l) (gt K1 0).need (fun r hr=>CC.nw (w0:=w) (w:=w7) (HE.out.marks r hr)) HE.out.al HE.out.an HE.out.ml HE.out.mn HKJ.out.len (Nat.le_trans HKJ.out.le (by decide))).mono ?_;rw[←HB2.out];rintro e w8 ⟨rfl,_⟩;have ho8:HB w8 zo 33 (BA 0 0 DJ).toArray :=inferInstance;have hzn8:HB w8 zn 33 (BA v1 x1 K1).toArray :=inferInstance;cases B2 with
    |false=>
     go_wp2_with (first|(refine Ji (kb0 _) ?_)|((with_reducible apply DR);exact rfl;exact rfl;infer_instance;infer_instance;exact rfl;(first|(exact rfl)|exact hl1);(first|(exact Bq _ _ _)|exact ho1);intro ws _ _));refine AA rfl rfl rfl (n:=10) rfl rfl ⟨Aa,0,0,DJ,4,rfl,Lib.hid ⟨rfl, ?_⟩,Lib.hid (DV.none _ _)⟩;rw[HNV2.out,←HB1.out,←HB2.out];rfl
    |true=>
     go_wp2_with (first|((with_reducible apply BP);exact rfl;exact hzn8;infer_instance;exact hl1)|(refine Bt ?_;intro ws _ _));refine AA rfl rfl rfl (n:=10) hl1 rfl ⟨Aa,v1,x1,K1,0,rfl,Lib.hid ⟨NH.out.1, ?_⟩,Lib.hid ?_⟩
     ·rw[HNV2.out,←HB1.out,←HB2.out];rfl
     exact DV.first (w1:=wzo) (hKs1.out.chg (inferInstance:Ch (only zo) w5 ws).out (fun x h=>by have h':x=zo:=h;omega)) hszo
  have hvI:(v1 -1 !=v)=true:=by simpa using hv
  have HV:Hid (¬v1 -1=v):=Lib.hid hv;have hvJ:v1 -1<v∨v<v1 -1:=by omega
  clear hv;go_wp2_with (first|(refine Ji (kb0 _) ?_)|((with_reducible apply DR);exact rfl;exact rfl;infer_instance;infer_instance;exact rfl;(first|(exact rfl)|exact hl1);(first|(exact Bq _ _ _)|exact ho1);intro ws _ _)|(refine BB 6 ?_;intro zn wzn _ _ _)|(refine GU ?_)|(refine Bt ?_;intro ws _ _));refine AA rfl rfl rfl (n:=10) rfl rfl ⟨Aa,0,0,DJ,6,rfl,Lib.hid ⟨rfl, ?_⟩,Lib.hid (DV.none _ _)⟩;rw[HNV.out,if_neg HV.out]
 have hm1:=NH.out.2;rw[ZG,if_neg hok] at hm1;obtain⟨hv1,hq1⟩:=Prod.mk.inj hm1;obtain⟨hx1,hq2⟩:=Prod.mk.inj hq1;obtain⟨hk1,he1⟩:=Prod.mk.inj hq2;have HN2:Hid (N=(0,0,DJ.map KR.m,2)):=Lib.hid (by rw[HN.out,if_neg hok]);subst he1;clear hm1 hv1 hx1 hk1 hq1 hq2 hok HN;go_wp2_with (first|(refine Ji (kb0 _) ?_)|((with_reducible apply DR);exact rfl;exact rfl;infer_instance;infer_instance;exact rfl;(first|(exact rfl)|exact hl1);(first|(exact Bq _ _ _)|exact ho1);intro ws _ _)|(refine BB 6 ?_;intro zn wzn _ _ _)|(refine Bt ?_;intro ws _ _));refine AA rfl rfl rfl (n:=10) rfl rfl ⟨Aa,0,0,DJ,2,rfl,Lib.hid ⟨rfl, ?_⟩,Lib.hid (DV.none _ _)⟩;rw[HN2.out]
end Go.Proofs.YtjjhceeookpieaaGreat
end
section
open Go Go.RowKit
namespace Go.Proofs.YtjjhceeookpieaaGreat
theorem Ahh (A:Option Addr) (n c:Nat) (w:World):(binOp .eql 28 (.slice A n c) (.slice none 0 0)).run Tryz.prog w= .ok (.bool A.isNone) w:=
 Lib.run_eql_slice_nil w 28 23 A n c 0 0 Tryz.underlying28
attribute [local go_sem] Ahh
end Go.Proofs.YtjjhceeookpieaaGreat
end
section
open Go Go.RowKit
namespace Go.Proofs.YtjjhceeookpieaaGreat
section
variable {P:Program} {fn:Func} {a:Act} {w:World} {R:Ending→World→Prop}
end
def Ahi (r:Fg):List Em→Nat→Fg×Nat×Int
 |[],i=>(r,i,0)
 |E::L,i=>if(Gi r E.m E.l).2.2.2=0 then Ahi ((Gi r E.m E.l).1,(Gi r E.m E.l).2.1,(Gi r E.m E.l).2.2.1) L (i+1) else(r,i,(Gi r E.m E.l).2.2.2)
theorem GZ {α:Type} [Af α] (L:List α) (k:Nat) (h:k<L.length):L.drop k=gt L k::L.drop (k+1):=by
 rw[List.drop_eq_getElem_cons h];simp[gt,List.getD_eq_getElem?_getD,h]
def Ajm (r:Fg) (L:List Em) (w:World):Ending→World→Prop:=fun e w'=>Ag Ab w w'∧∃v x K,∃(i:Nat) (err:Int),e= .returned (.tuple #[.agg (BA v x K).toArray, .int .i64 (i:Int), .int .i64 err])∧Hid (K.length=4∧((v,x,K.map KR.m),i,err)=Ahi r L 0)∧Hid (DV w w' K)
def KsO (w0 w:World) (S:Nat→Prop) (K:List KR):Prop:=∀k∈K,BN w k∧Aj w0 k.A∧∀x,Jw k.A k.l x→¬S x
theorem KsO.chg {S T:Nat→Prop} {w0 w w':World} {K:List KR} (h:KsO w0 w S K) (hc:Au T w w') (hT: ∀x,x<w.heap.size→T x→S x):KsO w0 w' S K:=fun k hk=>⟨(h k hk).1.chg hc (fun x hx ht=>(h k hk).2.2 x hx (hT x ((h k hk).1.low x hx) ht)),(h k hk).2.1,(h k hk).2.2⟩
end Go.Proofs.YtjjhceeookpieaaGreat
end
