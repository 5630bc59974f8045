/- UhUpG, UhUpT -/
import Derived.Test.YtjjhceeookpieaaGreatUhUpE
import Derived.Test.YtjjhceeookpieaaGreatUhRlN
import Derived.Test.YtjjhceeookpieaaGreatUhZ
import Derived.Test.YtjjhceeookpieaaGreatUhUpR
import Derived.Test.YtjjhceeookpieaaGreatUhRlP
import Derived.Test.YtjjhceeookpieaaGreatUhFwM
section
open Go Go.RowKit
namespace Go.Proofs.YtjjhceeookpieaaGreat
theorem NJ.env {w:World} {lo hi:Nat} {m:List UInt8} {P:List Pu} {v0 v1:Value} (h:NJ w lo hi m P v0 v1): ∃E:Em,Af.enc E=[v0,v1]∧Cc w E∧Rg E (m,P):=by
 obtain⟨M,nb,cb,A,n,c,l,e0,e1,h1,h2,h3,h4,h5,h6,h7,h8,h9,_⟩:=h;refine⟨⟨M,nb,cb,A,n,c,m,l⟩,by rw[e0,e1];rfl,⟨h1,h5,fun x hx=>(h9 x hx).1,h2,h4,h6,h7.2,by have:=h7.1;show n≤_;omega,by show nb≤_;omega⟩,rfl,h8⟩
theorem Mu.env {w:World} {O:Nat→Prop} {m:List UInt8} {P:List Pu} {v0 v1:Value} (h:Mu O w m P v0 v1): ∃E:Em,Af.enc E=[v0,v1]∧Cc w E∧Rg E (m,P):=by
 obtain⟨M,nb,cb,A,n,c,l,e0,e1,h1,h2,h3,h4,h5,h6,h7,h8,h9,_⟩:=h;refine⟨⟨M,nb,cb,A,n,c,m,l⟩,by rw[e0,e1];rfl,⟨h1,h5,fun x hx=>(h9 x hx).1,h2,h4,h6,h7.2,by have:=h7.1;show n≤_;omega,by show nb≤_;omega⟩,rfl,h8⟩
theorem SH {O:Nat→Prop} {w:World}: ∀(l:List JY) (L:List Nx),l.length=L.length→(∀i,i<l.length→Mu O w (Lx L i).1 (Lx L i).2 (gt l i).v0 (gt l i).v1)→
    ∃X:List Em,X.length=l.length∧cellsOf X=cellsOf l∧(∀E∈X,Cc w E)∧∀i,i<X.length→Rg (gt X i) (Lx L i)
 |[],L,_,_=>⟨[],rfl,rfl,fun E hE=>(by cases hE),fun i hi=>absurd hi (Nat.not_lt_zero _)⟩
 |c::l,[],h,_=>by cases h
 |c::l,y::L,h,hx=>by
  obtain⟨E,e1,e2,e3⟩:=(hx 0 (by simp)).env;obtain⟨X,x1,x2,x3,x4⟩:=SH l L (by simpa using h) (fun i hi=>hx (i+1) (by simpa using hi));refine⟨E::X,by simp[x1], ?_,fun q hq=> ?_,fun i hi=> ?_⟩
  ·show Af.enc E++cellsOf X=Af.enc c++cellsOf l;rw[x2,e1];rfl
  ·rcases List.mem_cons.1 hq with rfl|hq
   ·exact e2
   exact x3 q hq
  cases i with
  |zero=>exact e3
  |succ i=>exact x4 i (by simpa using hi)
theorem Ach {w w':World} {LX LG:List Nx} {mt ms:Nx} {a b c d:Value} {A1 A2:Option Addr} {n1 n2:Nat} (h:Ag9 w w' LX LG mt ms a b c d A1 A2 n1 n2) (c1 c2:Nat) (h1:n1≤1000000) (h2:n2≤1000000):
    ∃B:IM,(#[.slice A1 n1 c1,a,b,c,d, .slice A2 n2 c2]:Array Value)=(Ki B).toArray ∧Nq w' B∧B.X.length=n1∧(∀i,i<n1→Rg (gt B.X i) (Lx LX i))∧Rg B.t mt∧Rg B.s ms∧B.G.length=n2∧∀i,i<n2→Rg (gt B.G i) (Lx LG i):=by
 obtain⟨ht,hs,⟨lx,rx,hlx,px⟩,⟨lg,rg,hlg,pg⟩⟩:=h.out;obtain⟨T,t1,t2,t3⟩:=ht.env;obtain⟨S,s1,s2,s3⟩:=hs.env;obtain⟨X,x1,x2,x3,x4⟩:=SH lx LX px.out.2.1 px.out.2.2;obtain⟨G,g1,g2,g3,g4⟩:=SH lg LG pg.out.2.1 pg.out.2.2;refine⟨⟨A1,n1,c1,X,T,S,A2,n2,c2,G⟩, ?_,⟨?_, ?_,by show n1≤_;omega,x3,t2,s2, ?_, ?_,by show n2≤_;omega,g3⟩,by rw[←hlx];exact x1,fun i hi=>x4 i (by rw[x1,hlx];exact hi),t3,s3,by rw[←hlg];exact g1,fun i hi=>g4 i (by rw[g1,hlg];exact hi)⟩
 ·unfold Ki;rw[t1,s1];rfl
 ·rw[x2];exact rx.out
 ·rw[←hlx];exact x1
 ·rw[g2];exact rg.out
 rw[←hlg];exact g1
def Ph (sd:Ak) (n:Nat):List Nx:=(List.range n).map fun(i:Nat)=>(EU sd (2+(i:Int)),Kf (AQ (Ao sd 0)) (Ao sd 0) (i:Int) (EU sd (2+(i:Int))))
theorem Zt (sd:Ak) (n:Nat):Ph sd (n+1)=Ph sd n++[(EU sd (2+(n:Int)),Kf (AQ (Ao sd 0)) (Ao sd 0) (n:Int) (EU sd (2+(n:Int))))]:=by
 unfold Ph;rw[List.range_succ,List.map_append];rfl
theorem UO (sd:Ak) (n:Nat):(Ph sd n).length =n:=by simp[Ph]
theorem Af3 (sd:Ak) (n i:Nat) (h:i<n):Lx (Ph sd n) i=(EU sd (2+(i:Int)),Kf (AQ (Ao sd 0)) (Ao sd 0) (i:Int) (EU sd (2+(i:Int)))):=by
 unfold Lx Ph;simp[List.getD_eq_getElem?_getD,h]
theorem Fz.lt {O:Nat→Prop} {w:World} {t:Jf} (h:Fz O w t):Fz (fun y=>O y∧y<w.heap.size) w t:=
 ⟨h.k4,h.kin,fun k hk=>(h.ko k hk).lt (h.kin k hk).rd,h.pr,h.pl,h.pc,h.p9,h.po.lt h.pr,h.gr,h.gl,h.gcp,h.g9,h.go.lt h.gr,fun y hy=>(h.ts y hy).lt,h.pos⟩
theorem Afq (O:Nat→Prop) (w0 w:World) [n:Ay w0 w]: ∀y,Kh O w y→Kh O w0 y:=fun _ h=>h.imp (fun h=>h) (fun h=>Nat.le_trans n.out h)
theorem Fz.passN {O:Nat→Prop} {w w':World} {t:Jf} [n:Nw w w'] (h:Fz O w t):Fz O w' t:=h.nw n.out
theorem Fz.passZ {O:Nat→Prop} {wc w w':World} {z:Nat} {t:Jf} {ty:TypeId} {cs:Array Value} [hz:HB wc z ty cs] [c:Ag (only z) w w'] (ho: ¬O z) (h:Fz (Kh O wc) w t):Fz (Kh O wc) w' t:=h.chg c.chg (fun y h1 h2=>by
 have h':y=z:=h1;have hl:=hz.out.lt;rw[h'] at h2;rcases h2 with h2|h2
 ·exact ho h2
 omega)
theorem Aci {t:Jf} {sd:Ak} {g v x:Int} {T:List Ad} (h:t.m=Zy sd g v x T):t.l.length=1∧(gt t.l 0).P =T:=by
 have h1:t.l.map Ea.k=[(CF,v,x,T,[])]:=congrArg Zu.tg h;obtain⟨y,hy,hk⟩:=Xz h1;rw[hy];refine⟨rfl, ?_⟩;have h2:y.P=T:=congrArg (fun q:Xx=>q.2.2.2.1) hk;exact h2
end Go.Proofs.YtjjhceeookpieaaGreat
end
section
set_option maxRecDepth 100000
set_option maxHeartbeats 6400000
open Go Go.RowKit
namespace Go.Proofs.YtjjhceeookpieaaGreat
structure LU (sd:Ak) (w wr:World) (zr:Nat) (j:Int) (zt:Nat) (s:Il) (t:Jf) (O:Nat→Prop):Prop where
 R:FV wr zr s
 ok:TOk s.T
 sdq:s.sd=sd
 lo: ∀x,KX zr s x∨s.O x→w.heap.size≤x
 dl:(s.D.length:Int)≤16*j
 u0:0≤s.u0∧s.u0≤16
 g:s.g=1+s.u0
 u1:0≤s.u1
 v:0≤s.v∧s.v≤j
 lx:s.LX=Ph sd s.u0.toNat
 hz:HB wr zt 42 (Fy t).toArray
 zo: ¬(KX zr s zt∨s.O zt)∧w.heap.size≤zt
 tin:Fz O wr t
 olt: ∀y,O y→y<wr.heap.size∧¬(KX zr s y∨s.O y)∧y≠zt
 told:LT t.m sd s.g s.v
theorem LT.mono {t:Zu} {sd:Ak} {g v g' v':Int} (h:LT t sd g v) (hg:g≤g') (hv:v≤v'):LT t sd g' v':=
 ⟨by obtain⟨c,h1,h2,h3⟩:=h.root;exact⟨c,h1,Int.le_trans h2 hg,h3⟩,fun hs=>⟨Int.le_trans (h.tv hs).1 hv,Int.le_trans (h.tv hs).2 hv⟩,fun hs=>by obtain⟨v1,h1,h2⟩:=h.sp hs;exact⟨v1,Int.le_trans h1 hv,h2⟩⟩
theorem LT.at (sd:Ak) (g v x:Int) (T:List Ad) (hg:1≤g):LT (Zy sd g v x T) sd g v:=
 ⟨⟨g,hg,Int.le_refl _,rfl⟩,fun _=>⟨Int.le_refl _,Int.le_refl _⟩,fun _=>⟨v,Int.le_refl _,rfl⟩⟩
theorem LU.next {sd:Ak} {w wr w':World} {zr:Nat} {j:Int} {zt:Nat} {s s':Il} {t:Jf} {O:Nat→Prop} (L:LU sd w wr zr j zt s t O) (N:Hq wr w' zr s s') (hw:Nw w wr) (ok:TOk s'.T) (sdq:s'.sd=sd) (dl:(s'.D.length:Int)≤16*(j+1)) (u0:0≤s'.u0∧s'.u0≤16) (g:s'.g=1+s'.u0) (u1:0≤s'.u1) (v:0≤s'.v∧s'.v≤j+1) (lx:s'.LX=Ph sd s'.u0.toNat) (hg:s.g≤s'.g) (hv:s.v≤s'.v):
    LU sd w w' zr (j+1) zt s' t O∧Nw w w':=by
 have hztl:=L.hz.out.lt;have fr: ∀y,y<wr.heap.size→¬(KX zr s y∨s.O y)→¬(KX zr s' y∨s'.O y):=fun y h1 h2 h3=>by
  rcases N.fr y h3 with h4|h4
  ·exact h2 h4
  omega
 refine⟨⟨N.at',ok,sdq,fun x h=> ?_,dl,u0,g,u1,v,lx,⟨L.hz.out.chg N.st (fun h=>L.zo.1 (.inl h))⟩,⟨fr zt hztl L.zo.1,L.zo.2⟩,L.tin.chg N.st (fun y h1 h2=>(L.olt y h2).2.1 (.inl h1)),fun y h=>⟨Nat.lt_of_lt_of_le (L.olt y h).1 N.st.size,fr y (L.olt y h).1 (L.olt y h).2.1,(L.olt y h).2.2⟩,L.told.mono hg hv⟩,⟨hw.out.trans N.st (fun x hx h=>by have:=L.lo x (.inl h);omega)⟩⟩;rcases N.fr x h with h1|h1
 ·exact L.lo x h1
 exact Nat.le_trans hw.out.size h1
theorem LU.nw {sd:Ak} {w wr w':World} {zr:Nat} {j:Int} {zt:Nat} {s:Il} {t:Jf} {O:Nat→Prop} (L:LU sd w wr zr j zt s t O) (c:Au Ab wr w'):LU sd w w' zr j zt s t O:=
 ⟨L.R.nw c,L.ok,L.sdq,L.lo,L.dl,L.u0,L.g,L.u1,L.v,L.lx,⟨L.hz.out.chg c (fun h=>h)⟩,L.zo,L.tin.nw c,fun y h=>⟨Nat.lt_of_lt_of_le (L.olt y h).1 c.size,(L.olt y h).2⟩,L.told⟩
theorem LU.up {sd:Ak} {w wr:World} {zr:Nat} {j k:Int} {zt:Nat} {s:Il} {t:Jf} {O:Nat→Prop} (L:LU sd w wr zr j zt s t O) (h:j≤k):LU sd w wr zr k zt s t O:=
 ⟨L.R,L.ok,L.sdq,L.lo,by have:=L.dl;omega,L.u0,L.g,L.u1,⟨L.v.1,by have:=L.v.2;omega⟩,L.lx,L.hz,L.zo,L.tin,L.olt,L.told⟩
theorem LU.take {sd:Ak} {w wr w2 w3:World} {zr:Nat} {j:Int} {zt:Nat} {s:Il} {t t':Jf} {O:Nat→Prop} (L:LU sd w wr zr j zt s t O) (c:Au Ab wr w2) (ht:Fz (Kh O wr) w2 t') (c3:Au (only zt) w2 w3) (hz:HB w3 zt 42 (Fy t').toArray) (told:LT t'.m sd s.g s.v):
    LU sd w w3 zr j zt s t' (fun y=>Kh O wr y∧y<w2.heap.size):=by
 have hztl:=L.hz.out.lt;have hoff: ∀y,Kh O wr y→y≠zt∧¬(KX zr s y∨s.O y):=fun y h=>by
  rcases h with h|h
  ·exact⟨(L.olt y h).2.2,(L.olt y h).2.1⟩
  have h':wr.heap.size≤y:=h;refine⟨by omega,fun h2=> ?_⟩;rcases h2 with h2|h2
  ·have:=L.R.lts y h2;omega
  have:=L.R.oLt y h2;omega
 exact⟨(L.R.nw c).chg c3 (fun y h=>by
     have h':y=zt:=h;rw[h'];exact⟨fun h1=>L.zo.1 (.inl h1),fun h1=>L.zo.1 (.inr h1)⟩),L.ok,L.sdq,L.lo,L.dl,L.u0,L.g,L.u1,L.v,L.lx,hz,L.zo,ht.lt.chg c3 (fun y h1 h2=>(hoff y h2.1).1 h1),fun y h=>⟨Nat.lt_of_lt_of_le h.2 c3.size,(hoff y h.1).2,(hoff y h.1).1⟩,told⟩
def WJ (sd:Ak) (w wr:World) (zr:Nat) (j:Int) (zt:Nat):Prop:=∃s t O,LU sd w wr zr j zt s t O
theorem Rh {B:IM} {sd:Ak} {s:Il} {x v u:Int} {T:List Ad} {n1:Nat} (hx:B.X.length=n1) (hxs: ∀i,i<n1→Rg (gt B.X i) (Lx (Ph sd n1) i)) (h16:n1≤16) (hg:s.g=1+(n1:Int)) (hsd:s.sd=sd)
    (ht:Rg B.t (nmM s x)) (hs:Rg B.s (nmS s x)) (hG:B.G.length=1) (hgs:Rg (gt B.G 0) (nmT s x)) (hv:s.v+1=v) (hu:s.u1=u) (hT:s.T=T):SJ B sd s.g s.g v x u T:=by
 subst hv hu hT hsd;refine⟨by rw[hx];exact hg,by omega,fun i hi=> ?_,ht,hs,hG,hgs⟩;rw[hx] at hi;have h9:=hxs i hi;rw[Af3 _ _ _ hi] at h9;exact h9
theorem LV (sd:Ak) (life:Int) {A:Option Addr} {n c:Nat} {P:List Ly} {w:World} [hr:HR w A (cellsOf P)] (hl:P.length=n) (hn9:n≤9223372036854775807):
    Calls Tryz.prog 3 #[.agg (Aw sd.l), .slice A n c, .int .i64 life] w fun e w'=>e= .returned (.bool true)∧Au Ab w w':=by
 have HRR:=Lib.hid hr.out;have HL:=Lib.hid hl;have hsdz:=sd.size;go_enter Tryz.func3,Tryz.ntmps3;go_wp2_with (first|(refine Bv 3 ?_;intro zs wzs _ _ _));refine(RZ hl hn9).mono ?_;rintro e w1 ⟨rfl|rfl,st1⟩
 ·go_wp2_with fail;go_ret;exact⟨rfl,(Aa (w0:=w)).chg⟩
 by_cases h1:life<1
 ·go_wp2_with fail;go_ret;exact⟨rfl,(Aa (w0:=w)).chg⟩
 by_cases h2:1000<life
 ·go_wp2_with fail;go_ret;exact⟨rfl,(Aa (w0:=w)).chg⟩
 go_wp2_with (first|(refine Cp ?_));refine(OM sd _).mono ?_;rintro e w2 ⟨zr,rfl,st2,z0,z1,R2,hlo2⟩;have nw2:Nw w w2:=inferInstance;have hle2:w.heap.size≤w1.heap.size:=(inferInstance:Nw w w1).out.size;have lo2: ∀x,KX zr (rp0 sd z0 z1) x∨(rp0 sd z0 z1).O x→w.heap.size≤x:=fun x h=>by
  rcases h with h|h
  ·exact Nat.le_trans hle2 (hlo2 x h)
  exact h.elim
 go_wp2_with fail;refine(US R2).mono ?_;rintro e w3 ⟨K,rfl,hK4,N3,hKM⟩;obtain⟨nw3,lo3⟩:=Sa nw2 N3 lo2;have kb1:=Af1 1 1073741824 K hK4;have hts0:(Fy (SV 1 1073741824 K)).toArray.size =50:=Ft _ hK4;have hto0:=Hj (SV 1 1073741824 K);have hlt2:=R2.lts;clear lo2 hlo2 R2 st2;go_wp2_with (first|(refine Ji (kb1 _) ?_)|(refine BB 8 ?_;intro zt wzt _ _ _)|(refine Bt ?_;intro ws _ _));have hzt:HB ws zt 42 (Fy (SV 1 1073741824 K)).toArray :=inferInstance;have hzb:w3.heap.size≤zt:=Nat.le_of_eq (inferInstance:AW w3 zt).eq.symm;have hc3:Au Ab w3 ws:=(Aa (w0:=w3)).chg;have nw4:Nw w ws:=⟨nw3.out.trans hc3 (fun _ _ h=>h)⟩;have hw3:=nw3.out.size;have HI:Hid (WJ sd w ws zr 0 zt):=Lib.hid (by
  refine⟨_,SV 1 1073741824 K,fun y=>w2.heap.size≤y∧y<w3.heap.size,N3.at'.nw hc3,TOk.nil,rfl,lo3,Int.le_refl _,⟨Int.le_refl _,(by show(0:Int)≤16;decide)⟩,rfl,Int.le_refl _,⟨Int.le_refl _,Int.le_refl _⟩,rfl,hzt,⟨fun h=> ?_,by omega⟩,Agu hK4 (fun k hk=>(hKM.out.1 k hk).1.chg hc3 (fun _ _ h=>h)) (fun k hk hne ad e=>⟨(hKM.out.1 k hk).2.out ad e,DC (hKM.out.1 k hk).1.rd hne e⟩),fun y h=>⟨Nat.lt_of_lt_of_le h.2 hc3.size,fun h2=> ?_,by omega⟩,⟨⟨1,by decide,(by show(1:Int)≤1;decide), ?_⟩,fun h=>(by cases h),fun h=>(by cases h)⟩⟩
  ·rcases h with h|h
   ·have:=N3.at'.lts _ h;omega
   exact h.elim
  ·rcases h2 with h2|h2
   ·have:=hlt2 y h2;omega
   exact h2.elim
  show((1:Int),(1073741824:Int),K.map KR.m)=DI sd 1;rw[hKM.out.2];rfl)
 clear hzt N3 lo3 hlt2 hKM nw3 hc3;go_loopw [9] (fun iv wr=>∃j:Nat,j≤n∧j≤24∧iv= .int .i64 (j:Int)∧Nw w wr∧Hid (WJ sd w wr zr (j:Int) zt)) (fun iv _=>n -(intOf iv).toNat)
 case atStart=>exact⟨0,Nat.zero_le _,by decide,rfl,nw4,HI⟩
 case round=>
  clear nw4 HI;obtain⟨j,hjn,hj24,rfl,nwj,HI⟩:=hrel;obtain⟨s,t,O,L⟩:=HI.out;by_cases hjl:j<n
  ·have hjI:(j:Int)<n:=by omega
   have hjp:j<P.length:=by rw[HL.out];exact hjl
   have hrj:HR wr A (cellsOf P):=⟨HRR.out.later nwj.out⟩;by_cases h24:j<24
   ·have h24I:(j:Int)<24:=by omega
    have hDl:s.D.length≤1000000:=by have:=L.dl;omega
    have hTl:=L.ok.len;obtain⟨K,hK⟩: ∃K,K=(gt P j).kind :=⟨_,rfl⟩;have hkK:Eg (Af.enc (gt P j)) 0=some (.int .i64 K):=by rw[hK];rfl
    clear hK;by_cases k1:K=1
    ·have e1:(K==1)=true:=by simpa using k1
     clear k1;go_wp2_with (first|(refine WLG 43 Ly j 0 40 hjp hkK ?_)|((with_reducible apply(Bu (dst:=some 84)));(with_reducible apply(OA (α:=Ly) (k:=j) (j:=1) (s:=40) (n:=37)));infer_instance;exact rfl;infer_instance;exact rfl;(decide);exact hjp;exact Alx _;exact Af.len _)|(refine Ja Ly 24 ?_)|(refine SX 46 Tryz.underlying46 ?_));refine(OH L.R (gt P j).t L.ok.rise (by omega)).mono ?_;rintro e w5 ⟨rfl,B',d',hN⟩;obtain⟨L5,nw5⟩:=L.next hN nwj (Aej L.ok _) L.sdq (by have:=L.dl;show(s.D.length:Int)≤_;omega) L.u0 L.g L.u1 ⟨L.v.1,by have:=L.v.2;show s.v≤_;omega⟩ L.lx (Int.le_refl _) (Int.le_refl _);have HI5:Hid (WJ sd w w5 zr ((j:Int)+1) zt):=Lib.hid ⟨_,_,_,L5⟩;clear hN nwj L HI L5;go_wp2_with fail;exact⟨⟨j+1,by omega,by omega,by go_num,nw5,HI5⟩,by simp[intOf];omega⟩
    have e1:(K==1)=false:=by simpa using k1
    clear k1;by_cases k2:K=2
    ·have e2:(K==2)=true:=by simpa using k2
     clear k2;go_wp2_with (first|(refine WLG 43 Ly j 0 40 hjp hkK ?_)|(refine Ja Ly 24 ?_)|(refine SX 46 Tryz.underlying46 ?_));have oPA:Ff (KX zr s) A (cellsOf P):=⟨fun hne ad e h=>by have:=DC HRR.out hne e;have:=L.lo _ (.inl h);omega⟩;refine Ah ((KX zr s)) (by kernel_rfl) (fun wd _ _=> ?_);refine YS 0 ?_;refine YS 1 ?_;refine YS 2 ?_;refine Gx 3 Ly 24 ?_;refine Jh 4 46 Tryz.underlying46 ?_;refine Jh 5 44 Tryz.underlying44 ?_;refine YLG 6 Ly j 1 40 hjp (Ai5 _) ?_;refine YS 7 ?_;refine YS 8 ?_;refine Gx 9 Ly 24 ?_;refine Jh 10 46 Tryz.underlying46 ?_;refine Jh 11 44 Tryz.underlying44 ?_;refine YLG 12 Ly j 37 40 hjp (Afc _) ?_;refine Yg 13 fun K_ hK_=> ?_
     go_simp;have Ld:=L.nw (Aa (w0:=wr) (w:=wd)).chg;have nwd:Nw w wd:=⟨nwj.out.trans (Aa (w0:=wr) (w:=wd)).chg (fun _ _ h=>h)⟩;refine(PP Ld.R (gt P j).t.l (gt P j).t.ecu L.ok.rise (by omega)).mono ?_;rintro e w5 ⟨rfl,B',d',hN⟩;have st5:Ag (KX zr s) wd w5:=⟨hN.st⟩;refine Yz hK_ ?_;clear hK_ K_;refine Yd ?_;obtain⟨L5,nw5⟩:=Ld.next hN nwd (Aek L.ok _ _) L.sdq (by have:=L.dl;show(s.D.length:Int)≤_;omega) L.u0 L.g L.u1 ⟨L.v.1,by have:=L.v.2;show s.v≤_;omega⟩ L.lx (Int.le_refl _) (Int.le_refl _);have HI5:Hid (WJ sd w w5 zr ((j:Int)+1) zt):=Lib.hid ⟨_,_,_,L5⟩;clear hN nwj L HI L5 nwd Ld st5;go_wp2_with fail;exact⟨⟨j+1,by omega,by omega,by go_num,nw5,HI5⟩,by simp[intOf];omega⟩
    have e2:(K==2)=false:=by simpa using k2
    clear k2;by_cases k4:K=4
    ·have e4:(K==4)=true:=by simpa using k4
     clear k4;go_wp2_with (first|(refine WLG 43 Ly j 0 40 hjp hkK ?_)|(refine Ja Ly 24 ?_)|(refine SX 46 Tryz.underlying46 ?_));by_cases hu:s.u0<16
     ·refine(PR L.R (by have h1:=L.R.eX.1;rw[L.lx,UO] at h1;have:=L.u0;omega) L.u0.1 hu (by have:=L.g;have:=L.u0.1;omega) (by have:=L.g;omega)).mono ?_;rintro e w5 ⟨rfl,zk,X',xc',ev,O',hN⟩;obtain⟨L5,nw5⟩:=L.next hN nwj L.ok L.sdq (by have:=L.dl;show(s.D.length:Int)≤_;omega) ⟨by have:=L.u0.1;show 0≤s.u0+1;omega,by show s.u0+1≤16;omega⟩ (by have:=L.g;show s.g+1=1+(s.u0+1);omega) (by show(0:Int)≤0;decide) ⟨L.v.1,by have:=L.v.2;show s.v≤_;omega⟩ (by
       have h1:=L.u0.1;have h2:=L.g;show s.LX++[(EU s.sd (s.g+1),Kf (AQ (Ao s.sd 0)) (Ao s.sd 0) s.u0 (EU s.sd (s.g+1)))]=Ph sd (s.u0+1).toNat;rw[show(s.u0+1).toNat =s.u0.toNat+1 by omega,Zt,L.lx,L.sdq,show(2+(s.u0.toNat:Int))=s.g+1 by omega,show(s.u0.toNat:Int)=s.u0 by omega]) (by show s.g≤s.g+1;omega) (Int.le_refl _)
      have HI5:Hid (WJ sd w w5 zr ((j:Int)+1) zt):=Lib.hid ⟨_,_,_,L5⟩;clear hN nwj L HI L5;go_wp2_with fail;exact⟨⟨j+1,by omega,by omega,by go_num,nw5,HI5⟩,by simp[intOf];omega⟩
     refine(PQ L.R (by omega)).mono ?_;rintro e w5 ⟨rfl,st5⟩;have HI5:Hid (WJ sd w w5 zr ((j:Int)+1) zt):=Lib.hid ⟨_,_,_,(L.nw st5.chg).up (by omega)⟩;have nw5:Nw w w5:=⟨nwj.out.trans st5.chg (fun _ _ h=>h)⟩;clear nwj L HI;go_wp2_with fail;exact⟨⟨j+1,by omega,by omega,by go_num,nw5,HI5⟩,by simp[intOf];omega⟩
    have e4:(K==4)=false:=by simpa using k4
    clear k4;go_wp2_with (first|(refine WLG 43 Ly j 0 40 hjp hkK ?_)|(refine Ja Ly 24 ?_)|(refine SX 46 Tryz.underlying46 ?_));by_cases hu:s.u1≤13
    ·refine(Ng L.R (j:Int) life L.ok.rise L.ok.may L.ok.len hDl L.u1 hu L.v.1 (by have:=L.v.2;omega) (by omega) (by omega) (by omega)).mono ?_;rintro e w5 ⟨rfl,xa,xb,xc,xd,zE,ev,C',cc',O',hN⟩;obtain⟨L5,nw5⟩:=L.next hN nwj L.ok L.sdq (by have:=L.dl;show((s.D++s.T).length :Int)≤_;rw[List.length_append];omega) L.u0 L.g (by have:=L.u1;show 0≤s.u1+3;omega) ⟨by have:=L.v.1;show 0≤s.v+1;omega,by have:=L.v.2;show s.v+1≤_;omega⟩ L.lx (Int.le_refl _) (by show s.v≤s.v+1;omega);obtain⟨x,hx⟩: ∃x:Int,x=(j:Int)+life:=⟨_,rfl⟩;obtain⟨s1,L5,hf1⟩: ∃s1:Il,LU sd w w5 zr ((j:Int)+1) zt s1 t O∧(s1.T=s.T∧s1.LG=[nmT s x]∧s1.mt=nmM s x∧s1.ms=nmS s x∧s1.g=s.g∧s1.v=s.v+1∧s1.gl.length=1):=⟨_,L5,rfl,by rw[hx],by rw[hx],by rw[hx],rfl,rfl,rfl⟩;have hxl:s1.xl.length=s1.u0.toNat:=by
      have h1:=L5.R.eX.1;rw[L5.lx,UO] at h1;exact h1
     have hu16:=L5.u0;have hver:BE (s.v+1)=true:=by
      have h1:=L.v;unfold BE;rw[decide_eq_true (by omega),decide_eq_true (by omega)];rfl
     have hnum:Ca x=true:=by
      unfold Ca;rw[decide_eq_true (by omega),decide_eq_true (by omega)];rfl
     have HTG:Hid (DO CF (s.v+1) x s.T []=true):=Lib.hid (TY L.ok.rise L.ok.may L.ok.len hver hnum);have HSS:Hid (s.sd=sd∧0≤s.u1∧s.u1≤13∧0≤s.v∧s.v≤24∧s.T.length≤16):=Lib.hid ⟨L.sdq,L.u1,hu,L.v.1,by have:=L.v.2;omega,L.ok.len⟩;have HF1:=Lib.hid hf1;have HX:Hid ((j:Int)<x∧x≤1073741824∧0≤x):=Lib.hid (by omega);have HL5:=Lib.hid L5;have hts:=Ft t L5.tin.k4;have hzt5:=L5.hz;have hCb:=fun(wd:World) (h:Au Ab w5 wd)=>Hr (HL5.out.R.nw h) (by rw[hxl];omega) (by rw[hf1.2.2.2.2.2.2];decide)
     have hCt:=fun(wd:World) (h:Au Ab w5 wd)=>OI (HL5.out.R.nw h) (by rw[hf1.1];omega)
     rw[hf1.1] at hCt;rw[hf1.2.2.2.2.2.2,hxl] at hCb;clear hN nwj L HI hver hnum hx hf1 L5;go_wp2_with fail;refine Ah (Ab) (by kernel_rfl) (fun wd _ _=> ?_);refine' tk 0 _ rfl (by kernel_rfl) (by kernel_rfl) (by kernel_rfl) (fun _ _ _ h=>h) (yo (by rfl) fun w' _=> ?_) inferInstance ?_;rotate_left
     ·((apply Ix);exact rfl;infer_instance;infer_instance;exact hts)
     try simp only[Act.put,sA,sB,sC]
     refine YS 1 ?_;refine YS 3 ?_;refine wpAnyH_ready (rs:=[2,8]) (by kernel_rfl) (by simp) (AllReadyH.cons rfl (fun K_ hK_=> ?_) (AllReadyH.cons rfl (fun K_ hK_=> ?_) AllReadyH.nil))
     focus
      go_simp;refine(hCb _ (Aa (w0:=w5)).chg).mono ?_;rintro e w6 ⟨ba,bb,bc,bd,A1,c1,A2,c2,rfl,st6,hB⟩;obtain⟨B,hBe,hBI,hBx,hBxs,hBt,hBs,hBg,hBgs⟩:=Ach hB c1 c2 (by omega) (by decide);rw[hBe];have HBI:=Lib.hid hBI;have HBH:Hid (SJ B sd s1.g s1.g (s.v+1) x s.u1 s.T):=Lib.hid (by
       obtain⟨f1,f2,f3,f4,f5,f6,f7⟩:=HF1.out;have hG0:=hBgs 0 (by decide);rw[f2] at hG0;rw[f3] at hBt;rw[f4] at hBs;rw[HL5.out.lx] at hBxs;have hg:=HL5.out.g;rw[f5] at hg⊢;exact Rh hBx hBxs (by omega) (by omega) HSS.out.1 hBt hBs hBg hG0 rfl rfl rfl)
      clear hB hBe hBI hBx hBxs hBt hBs hBg hBgs;refine Yz hK_ ?_;clear hK_ K_;refine wpAnyH_ready (rs:=[4,8]) (by kernel_rfl) (by simp) (AllReadyH.cons rfl (fun K_ hK_=> ?_) (AllReadyH.cons rfl (fun K_ hK_=> ?_) AllReadyH.nil))
      focus
       go_simp;refine(Hy (O:=O) t B (j:Int) (HL5.out.tin.nw (Aa (w0:=w5)).chg) (fun y h=>Nat.lt_of_lt_of_le (HL5.out.olt y h).1 (Aa (w0:=w5)).chg.size) (Nq.nw HBI.out)).mono ?_;rintro e w7 ⟨st7,t',err,rfl,hup,htr⟩;have hupd:KV t.m B (j:Int)=(Zy sd s1.g (s.v+1) x s.T,0):=by
        obtain⟨f1,f2,f3,f4,f5,f6,f7⟩:=HF1.out;have ht:=HL5.out.told;rw[f6] at ht;exact SK HBH.out ht HX.out.1 HX.out.2.1 HX.out.2.2 (by have:=HSS.out.2.2.2.1;omega) (by have:=HSS.out.2.2.2.2.1;omega) HSS.out.2.1 HSS.out.2.2.1 HTG.out
       have hup2:=hup.out;rw[hupd] at hup2;obtain⟨hm',he'⟩:=Prod.mk.inj hup2;have HTM:=Lib.hid hm';subst he';have hts':=Ft t' htr.out.k4;have hto':=Hj t';clear hup hup2 hm' hupd;refine Yz hK_ ?_;clear hK_ K_;refine YS 5 ?_;refine YS 6 ?_;refine YS 7 ?_;refine Yh 8 fun K_ hK_=> ?_
       (refine BB 10 ?_;intro zu wzu _ _ _)
       refine Yn hK_ ?_;clear hK_ K_;refine Yh 9 fun K_ hK_=> ?_
       (refine Bt ?_;intro ws _ _)
       refine Ym hK_ ?_;clear hK_ K_;refine YS 10 ?_;refine Yd ?_
      rotate_left 1
      focus
       refine Yq ?_
       (refine BB 10 ?_;intro zu wzu _ _ _)
       refine Yn hK_ ?_;clear hK_ K_;refine Yg 4 fun K_ hK_=> ?_
       go_simp;refine(Hy (O:=O) t B (j:Int) (HL5.out.tin.nw (Aa (w0:=w5)).chg) (fun y h=>Nat.lt_of_lt_of_le (HL5.out.olt y h).1 (Aa (w0:=w5)).chg.size) (Nq.nw HBI.out)).mono ?_;rintro e w7 ⟨st7,t',err,rfl,hup,htr⟩;have hupd:KV t.m B (j:Int)=(Zy sd s1.g (s.v+1) x s.T,0):=by
        obtain⟨f1,f2,f3,f4,f5,f6,f7⟩:=HF1.out;have ht:=HL5.out.told;rw[f6] at ht;exact SK HBH.out ht HX.out.1 HX.out.2.1 HX.out.2.2 (by have:=HSS.out.2.2.2.1;omega) (by have:=HSS.out.2.2.2.2.1;omega) HSS.out.2.1 HSS.out.2.2.1 HTG.out
       have hup2:=hup.out;rw[hupd] at hup2;obtain⟨hm',he'⟩:=Prod.mk.inj hup2;have HTM:=Lib.hid hm';subst he';have hts':=Ft t' htr.out.k4;have hto':=Hj t';clear hup hup2 hm' hupd;refine Yz hK_ ?_;clear hK_ K_;refine YS 5 ?_;refine YS 6 ?_;refine YS 7 ?_;refine Yh 9 fun K_ hK_=> ?_
       (refine Bt ?_;intro ws _ _)
       refine Ym hK_ ?_;clear hK_ K_;refine YS 10 ?_;refine Yd ?_
      rotate_left 1
     rotate_left 2
     focus
      refine Yq ?_
      (refine BB 10 ?_;intro zu wzu _ _ _)
      refine Yn hK_ ?_;clear hK_ K_;refine Yg 2 fun K_ hK_=> ?_
      go_simp;refine(hCb _ (Aa (w0:=w5)).chg).mono ?_;rintro e w6 ⟨ba,bb,bc,bd,A1,c1,A2,c2,rfl,st6,hB⟩;obtain⟨B,hBe,hBI,hBx,hBxs,hBt,hBs,hBg,hBgs⟩:=Ach hB c1 c2 (by omega) (by decide);rw[hBe];have HBI:=Lib.hid hBI;have HBH:Hid (SJ B sd s1.g s1.g (s.v+1) x s.u1 s.T):=Lib.hid (by
       obtain⟨f1,f2,f3,f4,f5,f6,f7⟩:=HF1.out;have hG0:=hBgs 0 (by decide);rw[f2] at hG0;rw[f3] at hBt;rw[f4] at hBs;rw[HL5.out.lx] at hBxs;have hg:=HL5.out.g;rw[f5] at hg⊢;exact Rh hBx hBxs (by omega) (by omega) HSS.out.1 hBt hBs hBg hG0 rfl rfl rfl)
      clear hB hBe hBI hBx hBxs hBt hBs hBg hBgs;refine Yz hK_ ?_;clear hK_ K_;refine Yg 4 fun K_ hK_=> ?_
      go_simp;refine(Hy (O:=O) t B (j:Int) (HL5.out.tin.nw (Aa (w0:=w5)).chg) (fun y h=>Nat.lt_of_lt_of_le (HL5.out.olt y h).1 (Aa (w0:=w5)).chg.size) (Nq.nw HBI.out)).mono ?_;rintro e w7 ⟨st7,t',err,rfl,hup,htr⟩;have hupd:KV t.m B (j:Int)=(Zy sd s1.g (s.v+1) x s.T,0):=by
       obtain⟨f1,f2,f3,f4,f5,f6,f7⟩:=HF1.out;have ht:=HL5.out.told;rw[f6] at ht;exact SK HBH.out ht HX.out.1 HX.out.2.1 HX.out.2.2 (by have:=HSS.out.2.2.2.1;omega) (by have:=HSS.out.2.2.2.2.1;omega) HSS.out.2.1 HSS.out.2.2.1 HTG.out
      have hup2:=hup.out;rw[hupd] at hup2;obtain⟨hm',he'⟩:=Prod.mk.inj hup2;have HTM:=Lib.hid hm';subst he';have hts':=Ft t' htr.out.k4;have hto':=Hj t';clear hup hup2 hm' hupd;refine Yz hK_ ?_;clear hK_ K_;refine YS 5 ?_;refine YS 6 ?_;refine YS 7 ?_;refine Yh 9 fun K_ hK_=> ?_
      (refine Bt ?_;intro ws _ _)
      refine Ym hK_ ?_;clear hK_ K_;refine YS 10 ?_;refine Yd ?_
     rotate_left 1
     all_goals
      have hzu:HB ws zu 42 (Fy t').toArray :=inferInstance;have hzub:w5.heap.size≤zu:=(Aj.monoS (w0:=w5) (Aj.of_born (z:=zu) 0)).out ⟨zu,0,none⟩ rfl;have hOz: ¬O zu:=fun h=>by have:=(HL5.out.olt zu h).1;omega
      have HTR:Hid (Fz (Kh O w5) ws t'):=Lib.hid (by
       first
        |exact(Fz.passN htr.out).mono (Afq O w5 _)
        |exact(Fz.passZ (z:=zu) hOz htr.out).mono (Afq O w5 _))
      obtain⟨hl1,hP1⟩:=Aci HTM.out;have hgn:t'.gn=1:=by rw[←HTR.out.gl];exact hl1
      have hl0:0<t'.l.length:=by omega
      have c49:=Aj6 t' HTR.out.k4;rw[hgn] at c49;have hHG:HR ws t'.G (cellsOf t'.l):=⟨HTR.out.gr⟩;have hT0:=HTR.out.ts _ (BD t'.l 0 hl0);obtain⟨EA,hEA⟩: ∃EA,EA=(gt t'.l 0).A :=⟨_,rfl⟩;have ts3:Eg (Af.enc (gt t'.l 0)) 3=some (.slice EA s.T.length (gt t'.l 0).c):=by
       rw[Amq,hEA,←hP1,hT0.pl]
      have HTS3:=Lib.hid ts3;have hEr:HR ws EA (cellsOf s.T):=⟨by rw[hEA,←hP1];exact hT0.pr⟩;have HEr:=Lib.hid hEr.out;have n5s:Au Ab w5 ws:=(Aa (w0:=w5)).chg;have hTl16:=HSS.out.2.2.2.2.2;have hztS:HB ws zt 42 (Fy t).toArray :=inferInstance;obtain⟨wq,hwq⟩: ∃wq:World,wq=ws:=⟨_,rfl⟩;subst hwq;have N5:=Lib.hid n5s;have hCt2:=fun(wd:World) (h:Au Ab wq wd)=>hCt wd (N5.out.trans h (fun _ _ h=>h))
      clear hT0 hEA hP1 n5s hzt5 hCt htr;go_wp2_with fail;refine Ah (Ab) (by kernel_rfl) (fun wd _ _=> ?_);refine YS 0 ?_;refine YS 1 ?_;refine YS 2 ?_;refine YS 3 ?_;refine IS 4 49 c49 ?_;refine YS 5 ?_;refine YS 6 ?_;refine YS 7 ?_;refine YS 8 ?_;refine YS 9 ?_;refine IS 10 49 c49 ?_;refine Gx 11 Ea 40 ?_;refine Jh 12 66 Tryz.underlying66 ?_;refine YLG 13 Ea 0 3 5 hl0 HTS3.out ?_;refine YS 14 ?_;refine Yg 15 fun K_ hK_=> ?_
      go_simp;refine(hCt2 _ (Aa (w0:=wq)).chg).mono ?_;rintro e w8 ⟨A8,c8,rfl,st8,hr8,_⟩;refine Yz hK_ ?_;clear hK_ K_;refine Yg 16 fun K_ hK_=> ?_
      go_simp;have hE8:HR w8 EA (cellsOf s.T):=⟨HEr.out.later (Aa (w0:=wq) (w:=w8)).chg⟩;refine(Od (hr:=hE8) (hr2:=hr8) rfl (Nat.le_trans hTl16 (by decide))).mono ?_;rintro e w9 ⟨rfl,st9⟩;refine Yz hK_ ?_;clear hK_ K_;refine YS 17 ?_;refine YS 18 ?_;refine Yd ?_;have n9:Au Ab wq w9:=(Aa (w0:=wq) (w:=w9)).chg;have hzt9:HB w9 zt 42 (Fy t).toArray :=inferInstance;clear hCt2 hCb hHG hEr;go_wp2_with (first|(refine Cp ?_)|(refine Bt ?_;intro ws _ _));have hztf:HB ws zt 42 (Fy t').toArray :=inferInstance;have hcz:Au (only zt) w9 ws:=(inferInstance:Ch (only zt) w9 ws).out;have hc59:Au Ab w5 w9:=N5.out.trans n9 (fun _ _ h=>h);have L9:=HL5.out.take hc59 (HTR.out.nw n9) hcz hztf (by
       obtain⟨f1,f2,f3,f4,f5,f6,f7⟩:=HF1.out;rw[HTM.out,f6];exact LT.at _ _ _ _ _ (by have:=HL5.out.g;omega))
      have nw9:Nw w ws:=⟨(nw5.out.trans hc59 (fun _ _ h=>h)).trans hcz (fun y hy h=>by
       have h':y=zt:=h;have:=HL5.out.zo.2;omega)⟩
      exact⟨⟨j+1,by omega,by omega,by go_num,nw9,Lib.hid ⟨_,_,_,L9⟩⟩,by simp[intOf];omega⟩
    refine(TZ L.R (j:Int) life (by omega) (by omega) (by omega) (by omega)).mono ?_;rintro e w5 ⟨rfl,st5⟩;have HI5:Hid (WJ sd w w5 zr ((j:Int)+1) zt):=Lib.hid ⟨_,_,_,(L.nw st5.chg).up (by omega)⟩;have nw5:Nw w w5:=⟨nwj.out.trans st5.chg (fun _ _ h=>h)⟩;clear nwj L HI;go_wp2_with fail;exact⟨⟨j+1,by omega,by omega,by go_num,nw5,HI5⟩,by simp[intOf];omega⟩
   have h24I: ¬(j:Int)<24:=by omega
   go_wp2_with fail;refine(Jv _).mono ?_;rintro e w5 ⟨rfl,st5⟩;go_wp2_with fail;go_ret;exact⟨rfl,nwj.out.trans st5.chg (fun _ _ h=>h)⟩
  have hjI: ¬(j:Int)<n:=by omega
  go_wp2_with fail;refine(Jv _).mono ?_;rintro e w5 ⟨rfl,st5⟩;go_wp2_with fail;go_ret;exact⟨rfl,nwj.out.trans st5.chg (fun _ _ h=>h)⟩
end Go.Proofs.YtjjhceeookpieaaGreat
end
