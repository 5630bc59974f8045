/- UhRlN, UhUpS, UhRlU -/
import Derived.Test.YtjjhceeookpieaaGreatUhZ
import Derived.Test.YtjjhceeookpieaaGreatUhRlC
import Derived.Test.YtjjhceeookpieaaGreatUhRpC
import Derived.Test.YtjjhceeookpieaaGreatUhTgL
import Derived.Test.YtjjhceeookpieaaGreatUhKyA
section
set_option maxRecDepth 100000
open Go Go.RowKit
namespace Go.Proofs.YtjjhceeookpieaaGreat
theorem TZ {w:World} {zr:Nat} {s:Il} (R:FV w zr s) (now life:Int) (hn0:0≤now) (hl0:0≤life) (hnl:now+life≤1073741824) (h13:13<s.u1):
    Calls Tryz.prog 11 #[.pointer (some ⟨zr,0,none⟩), .int .i64 now, .int .i64 life] w fun e w'=>e= .returned (.int .i64 3)∧Ag Ab w w':=by
 have hb:=R.hb;have hk:=R.k1;have hI1: ¬now<0:=by omega
 have hI2: ¬1073741824<now:=by omega
 have hI3: ¬life<0:=by omega
 have hI4: ¬1073741824 -now<life:=by omega
 go_enter Tryz.func11,Tryz.ntmps11;go_wp2_with (first|(refine SS 33 hb (Sk _ _ _ _ _ _ _) ?_));refine IA.mono ?_;rintro e w1 ⟨rfl,st1⟩;go_wp2_with fail;go_ret;exact⟨rfl,Aa⟩
theorem PQ {w:World} {zr:Nat} {s:Il} (R:FV w zr s) (h16:16≤s.u0):
    Calls Tryz.prog 10 #[.pointer (some ⟨zr,0,none⟩)] w fun e w'=>e= .returned (.int .i64 3)∧Ag Ab w w':=by
 have hb:=R.hb;have hk:=R.k0;go_enter Tryz.func10,Tryz.ntmps10;go_wp2_with (first|(refine SS 32 hb (QZ _ _ _ _ _ _ _) ?_));refine IA.mono ?_;rintro e w1 ⟨rfl,st1⟩;go_wp2_with fail;go_ret;exact⟨rfl,Aa⟩
def nmT (s:Il) (x:Int):Nx:=(sgT (s.v+1) x s.T,Kf (AQ (Ao s.sd s.g)) (Ao s.sd s.g) s.u1 (sgT (s.v+1) x s.T))
def nmS (s:Il) (x:Int):Nx:=(VZ (s.v+1) x,Kf (AQ (Ao s.sd s.g)) (Ao s.sd s.g) (s.u1+1) (VZ (s.v+1) x))
def nmM (s:Il) (x:Int):Nx:=(ZF (s.v+1) x,Kf (AQ (Ao s.sd s.g)) (Ao s.sd s.g) (s.u1+1+1) (ZF (s.v+1) x))
def Alv (s:Il) (x:Int) (zr:Nat) (w w':World):Prop:=∃a b c d zE,∃(ev:JY) (C':Option Addr) (cc':Nat) (O':Nat→Prop),Hq w w' zr s {s with v:=s.v+1,u1:=s.u1+3,C:=C',cc:=cc',D:=s.D++s.T,t0:=a,t1:=b,mt:=nmM s x,s0:=c,s1:=d,ms:=nmS s x,G:=some ⟨zE,0,none⟩,gc:=1,gl:=[ev],LG:=[nmT s x],O:=O'}
theorem Ab4 (v x:Int) (h1:BE v=true) (h2:Ca x=true):BO v x [⟨CF,v⟩]=true:=by
 unfold BO;rw[h1,h2];have h3:[(⟨CF,v⟩:AE)].all Cd=true:=by
  rw[List.all_cons,List.all_nil,Bool.and_true];unfold Cd;rw[h1];rfl
 rw[h3];rfl
theorem Ab5 (v x:Int) (h1:BE v=true) (h2:Ca x=true):IP v x v=true:=by unfold IP;rw[h1,h2];rfl
theorem Aeg (v x:Int) (h1:BE v=true):(VZ v x).length ≤100000:=by
 have a1:=Az [3];have a2:=Az [v,x];have a3:=Az [(([(⟨CF,v⟩:AE)]:List AE).length :Int)];have h3:[(⟨CF,v⟩:AE)].all Cd=true:=by
  rw[List.all_cons,List.all_nil,Bool.and_true];unfold Cd;rw[h1];rfl
 have a4:=Rb [⟨CF,v⟩] h3;unfold VZ CY;simp only[List.length_append,List.length_cons,List.length_nil] at*;omega
theorem Aeh (v x:Int) (T:List Ad) (h1:T.all DX=true) (h2:T.length≤16):(sgT v x T).length ≤100000:=by
 have a1:=Az [4];have a2:=Az [v,x];have a3:=Az [(T.length:Int)];have a4:=Az [((0:Nat):Int)];have a5:=UB T h1;have a6:=Dr CF (by decide);have a7:(JH []).length =0:=rfl;have a8:CF.length=3:=rfl;unfold sgT Qf;simp only[List.length_append,List.length_cons,List.length_nil] at*;omega
theorem Aei (v x:Int):(ZF v x).length ≤100000:=by
 have a1:=Az [2];have a2:=Az [v,x,v];have a3:=(Gw (VZ v x)).len;unfold ZF;simp only[List.length_append,List.length_cons,List.length_nil] at*;omega
theorem Ng {w:World} {zr:Nat} {s:Il} (R:FV w zr s) (now life:Int) (hr:Fn s.T) (hmay: ∀t∈s.T,OR t=true) (h16:s.T.length≤16) (hD:s.D.length≤1000000) (h0:0≤s.u1) (h13:s.u1≤13) (hv0:0≤s.v) (hv9:s.v≤1000000) (hn0:0≤now) (hl0:0≤life) (hnl:now+life≤1073741824):
    Calls Tryz.prog 11 #[.pointer (some ⟨zr,0,none⟩), .int .i64 now, .int .i64 life] w fun e w'=>e= .returned (.int .i64 0)∧Alv s (now+life) zr w w':=by
 have hb:HB w zr 84 (Bg s.sd (.pointer (some ⟨s.z0,0,none⟩)) (.pointer (some ⟨s.z1,0,none⟩)) s.f s.g s.v [.slice s.B s.T.length s.d, .slice s.X s.xl.length s.xc,s.t0,s.t1,s.s0,s.s1, .slice s.G s.gl.length s.gc, .slice s.C s.D.length s.cc]).toArray :=R.hb;have hk:=R.k1;have hB:=R.hB;have hC:=R.hC;have hver:BE (s.v+1)=true:=by unfold BE;rw[decide_eq_true (by omega),decide_eq_true (by omega)];rfl
 have hnum:Ca (now+life)=true:=by unfold Ca;rw[decide_eq_true (by omega),decide_eq_true (by omega)];rfl
 have hall:s.T.all DX=true:=List.all_eq_true.2 (fun t ht=>Xf (hmay t ht));refine(TU (T:=s.T) (D:=s.D) rfl rfl h16 hD R.ap.2.1 (fun ad e=>⟨(R.aB ad e).2.2,(R.aB ad e).1⟩) (fun ad e=>⟨(R.aC ad e).2.2,(R.aC ad e).1⟩) R.aBC h0 h13 hv0 (by omega) hn0 hl0 hnl (TY hr hmay h16 hver hnum) (Ab4 _ _ hver hnum) (Ab5 _ _ hver hnum) (Aeh _ _ _ hall h16) (Aeg _ _ hver) (Aei _ _)).mono ?_;rintro e w' ⟨rfl,a,b,c,d2,zE,ev,C',cc',lo,hi,st,hk',hb',hB',hC',hp,hE,hr'⟩;obtain⟨hCn,hlo,hhi,hzl,hzh⟩:=hp.out;have ch:=st.chg;have hsub: ∀x,Xd s.z1 zr s.C x→KX zr s x:=fun x h=>by
  rcases h with h|h|h
  ·exact .inr (.inr (.inl h))
  ·exact .inl h
  exact .inr (.inr (.inr (.inr (.inl h))))
 have hO: ∀y,s.O y→¬Xd s.z1 zr s.C y:=fun y h1 h2=>R.oM y h1 (hsub y h2)
 have hlen:(s.D++s.T).length =s.D.length+s.T.length:=List.length_append;have i2:=R.k0;have i6:=R.hX;have o2:As (Xd s.z1 zr s.C) s.z0:=⟨fun h=>by
  rcases h with h|h|⟨ad,e,h⟩
  ·exact R.ap.2.2 h
  ·exact R.ap.1 h
  exact(R.aC ad e).2.1 h⟩
 have o6:BW (Xd s.z1 zr s.C) s.X:=⟨fun bd e2 h=>by
  rcases h with h|h|⟨ad,e,h⟩
  ·exact(R.aX bd e2).2.2 h
  ·exact(R.aX bd e2).1 h
  exact R.aCX ad bd e e2 h⟩
 have lr:=R.hb.out.lt;have l0:=R.k0.lt;have l1:=R.k1.lt;have hlts:=R.lts;have hCn': ∀ad,C'=some ad→C'=s.C∨w.heap.size≤ad.block:=fun ad e=>(hCn ad e).imp (fun h=>h) (fun h=>by omega)
 have ho1: ∀{m P v0 v1},NJ w' lo hi m P v0 v1→Mu (fun y=>s.O y∨(lo≤y∧y<hi)) w' m P v0 v1:=fun h=>h.s (fun y h1 h2=> .inr ⟨h1,h2⟩)
 refine⟨rfl,a,b,c,d2,zE,ev,C',cc',fun y=>s.O y∨(lo≤y∧y<hi),⟨ch.mono (fun x _ h=>hsub x h),⟨?_,inferInstance,hk',hB', ?_,inferInstance, ?_,R.ap,R.aB,fun ad e=>⟨CJ hCn' zr lr (fun a h=>(R.aC a h).1) ad e,CJ hCn' s.z0 l0 (fun a h=>(R.aC a h).2.1) ad e,CJ hCn' s.z1 l1 (fun a h=>(R.aC a h).2.2) ad e⟩,R.aX,fun ad bd e e2=>fun h=>CJ hCn' ad.block (R.hB.out.lt e) (fun a h h2=>R.aBC ad a e h h2.symm) bd e2 h.symm,R.aBX,fun ad bd e e2=>CJ hCn' bd.block (R.hX.out.lt e2) (fun a h=>R.aCX a bd h e2) ad e,fun y h=> ?_,fun y h1 h2=> ?_,fun ad e=> ?_,ho1 hE.out.1,ho1 hE.out.2.1,(R.eX.chg ch hO).mono (fun y h=> .inl h),⟨rfl,fun i hi'=> ?_⟩⟩,fun x h=> ?_⟩⟩
 ·show HB w' zr 84 (Bg s.sd _ _ s.f s.g (s.v+1) [.slice s.B s.T.length s.d, .slice s.X s.xl.length s.xc,a,b,c,d2, .slice (some ⟨zE,0,none⟩) 1 1, .slice C' (s.D++s.T).length cc']).toArray;rw[hlen];exact hb'
 ·show HO w' 44 37 C' (s.D++s.T).length cc' (cellsOf (s.D++s.T));rw[hlen];exact hC'
 ·exact hr'.out
 ·rcases h with h|h
  ·exact Nat.lt_of_lt_of_le (R.oLt y h) ch.size
  omega
 ·have hC3: ∀bd,C'=some bd→bd.block=y→KX zr s y∨hi≤y:=fun bd e h=>by
    rcases hCn bd e with h3|h3
    ·rw[h3] at e;exact .inl (.inr (.inr (.inr (.inr (.inl ⟨bd,e,h⟩)))))
    right;omega
  have h3:KX zr s y∨hi≤y:=by
   rcases h2 with h2|h2|h2|h2|⟨bd,e,h2⟩|h2
   ·exact .inl (.inl h2)
   ·exact .inl (.inr (.inl h2))
   ·exact .inl (.inr (.inr (.inl h2)))
   ·exact .inl (.inr (.inr (.inr (.inl h2))))
   ·exact hC3 bd e h2
   exact .inl (.inr (.inr (.inr (.inr (.inr h2)))))
  rcases h1 with h1|h1
  ·rcases h3 with h3|h3
   ·exact R.oM y h1 h3
   have:=R.oLt y h1;omega
  rcases h3 with h3|h3
  ·have:=hlts y h3;omega
  omega
 ·have e':some (⟨zE,0,none⟩:Addr)=some ad:=e;injection e' with e'
  rw[←e'];exact .inr ⟨hzl,hzh⟩
 ·have h9:i<1:=hi';obtain rfl:i=0:=by omega
  exact ho1 hE.out.2.2
 rcases h with h|h|h
 ·rcases h with h|h|h|h|⟨bd,e,h⟩|h
  ·exact .inl (.inl (.inl h))
  ·exact .inl (.inl (.inr (.inl h)))
  ·exact .inl (.inl (.inr (.inr (.inl h))))
  ·exact .inl (.inl (.inr (.inr (.inr (.inl h)))))
  ·rcases hCn' bd e with h3|h3
   ·have e':C'=some bd:=e;rw[h3] at e';exact .inl (.inl (.inr (.inr (.inr (.inr (.inl ⟨bd,e',h⟩))))))
   right;omega
  exact .inl (.inl (.inr (.inr (.inr (.inr (.inr h))))))
 ·exact .inl (.inr h)
 right;omega
def Alw (s:Il) (zr:Nat) (w w':World):Prop:=∃(zk:Nat) (X':Option Addr) (xc':Nat) (ev:JY) (O':Nat→Prop),Hq w w' zr s {s with g:=s.g+1,z1:=zk,u0:=s.u0+1,u1:=0,X:=X',xc:=xc',xl:=s.xl++[ev],LX:=s.LX++[(EU s.sd (s.g+1),Kf (AQ (Ao s.sd 0)) (Ao s.sd 0) s.u0 (EU s.sd (s.g+1)))],O:=O'}
theorem PR {w:World} {zr:Nat} {s:Il} (R:FV w zr s) (hx:s.xl.length≤1000000) (h0:0≤s.u0) (h16:s.u0<16) (hg0:1≤s.g) (hg:s.g<200):
    Calls Tryz.prog 10 #[.pointer (some ⟨zr,0,none⟩)] w fun e w'=>e= .returned (.int .i64 0)∧Alw s zr w w':=by
 have hb:HB w zr 84 (Bg s.sd (.pointer (some ⟨s.z0,0,none⟩)) (.pointer (some ⟨s.z1,0,none⟩)) s.f s.g s.v [.slice s.B s.T.length s.d, .slice s.X s.xl.length s.xc,s.t0,s.t1,s.s0,s.s1, .slice s.G s.gl.length s.gc, .slice s.C s.D.length s.cc]).toArray :=R.hb;have hk:=R.k0;have hX:=R.hX;refine(RX (xl:=s.xl) rfl hx R.ap.1 (fun ad e=>⟨(R.aX ad e).2.1,(R.aX ad e).1⟩) h0 h16 hg0 hg).mono ?_;rintro e w' ⟨rfl,zk,X',xc',ev,lo,hi,st,hk0',hkk',hb',hX',hp,hE⟩;obtain⟨hXn,hzk1,hzk2,hlh,hhi⟩:=hp.out;have ch:=st.chg;have hsub: ∀x,Xd s.z0 zr s.X x→KX zr s x:=fun x h=>by
  rcases h with h|h|h
  ·exact .inr (.inl h)
  ·exact .inl h
  exact .inr (.inr (.inr (.inr (.inr h))))
 have hO: ∀y,s.O y→¬Xd s.z0 zr s.X y:=fun y h1 h2=>R.oM y h1 (hsub y h2)
 have hlen:(s.xl++[ev]).length =s.xl.length+1:=by rw[List.length_append];rfl
 have i4:=R.hB;have i5:=R.hC;have o4:BW (Xd s.z0 zr s.X) s.B:=⟨fun bd e2 h=>by
  rcases h with h|h|⟨ad,e,h⟩
  ·exact(R.aB bd e2).2.1 h
  ·exact(R.aB bd e2).1 h
  exact R.aBX bd ad e2 e h.symm⟩
 have o5:BW (Xd s.z0 zr s.X) s.C:=⟨fun bd e2 h=>by
  rcases h with h|h|⟨ad,e,h⟩
  ·exact(R.aC bd e2).2.1 h
  ·exact(R.aC bd e2).1 h
  exact R.aCX bd ad e2 e h.symm⟩
 have lr:=R.hb.out.lt;have l0:=R.k0.lt;have hlts:=R.lts;have hXn': ∀ad,X'=some ad→X'=s.X∨w.heap.size≤ad.block:=fun ad e=>(hXn ad e).imp (fun h=>h) (fun h=>by omega)
 have hXk: ∀ad,X'=some ad→ad.block≠zk:=fun ad e=>by
  rcases hXn ad e with h|h
  ·rw[h] at e;have:=R.hX.out.lt e;omega
  omega
 have hEx:=(hE.out.s (O:=fun y=>s.O y∨(lo≤y∧y<hi)) (fun y h1 h2=> .inr ⟨h1,h2⟩));refine⟨rfl,zk,X',xc',ev,fun y=>s.O y∨(lo≤y∧y<hi),⟨ch.mono (fun x _ h=>hsub x h),⟨?_,hk0',hkk',inferInstance,inferInstance, ?_,R.hG.chg ch (fun _ ad e=>hO _ (R.gO ad e)),⟨R.ap.1, ?_, ?_⟩,fun ad e=>⟨(R.aB ad e).1,(R.aB ad e).2.1, ?_⟩,fun ad e=>⟨(R.aC ad e).1,(R.aC ad e).2.1, ?_⟩,fun ad e=>⟨CJ hXn' zr lr (fun a h=>(R.aX a h).1) ad e,CJ hXn' s.z0 l0 (fun a h=>(R.aX a h).2.1) ad e,hXk ad e⟩,R.aBC,fun ad bd e e2=>fun h=>CJ hXn' ad.block (R.hB.out.lt e) (fun a h h2=>R.aBX ad a e h h2.symm) bd e2 h.symm,fun ad bd e e2=>fun h=>CJ hXn' ad.block (R.hC.out.lt e) (fun a h h2=>R.aCX ad a e h h2.symm) bd e2 h.symm,fun y h=> ?_,fun y h1 h2=> ?_,fun ad e=> .inl (R.gO ad e),(R.et.chg ch hO).mono (fun y h=> .inl h),(R.es.chg ch hO).mono (fun y h=> .inl h),⟨?_,fun i hi'=> ?_⟩,(R.eG.chg ch hO).mono (fun y h=> .inl h)⟩,fun x h=> ?_⟩⟩
 ·show HB w' zr 84 (Bg s.sd _ _ s.f (s.g+1) s.v [.slice s.B s.T.length s.d, .slice X' (s.xl++[ev]).length xc',s.t0,s.t1,s.s0,s.s1, .slice s.G s.gl.length s.gc, .slice s.C s.D.length s.cc]).toArray;rw[hlen];exact hb'
 ·show HO w' 58 2 X' (s.xl++[ev]).length xc' (cellsOf (s.xl++[ev]));rw[hlen];exact hX'
 ·show zk≠zr;omega
 ·show s.z0≠zk;omega
 ·show ad.block≠zk;have:=R.hB.out.lt e;omega
 ·show ad.block≠zk;have:=R.hC.out.lt e;omega
 ·rcases h with h|h
  ·exact Nat.lt_of_lt_of_le (R.oLt y h) ch.size
  omega
 ·have h3:KX zr s y∨y=zk∨hi≤y:=by
    rcases h2 with h2|h2|h2|h2|h2|⟨bd,e,h2⟩
    ·exact .inl (.inl h2)
    ·exact .inl (.inr (.inl h2))
    ·exact .inr (.inl h2)
    ·exact .inl (.inr (.inr (.inr (.inl h2))))
    ·exact .inl (.inr (.inr (.inr (.inr (.inl h2)))))
    rcases hXn bd e with h3|h3
    ·have e':X'=some bd:=e;rw[h3] at e';exact .inl (.inr (.inr (.inr (.inr (.inr ⟨bd,e',h2⟩)))))
    exact .inr (.inr (by omega))
  rcases h1 with h1|h1
  ·rcases h3 with h3|h3|h3
   ·exact R.oM y h1 h3
   ·have:=R.oLt y h1;omega
   have:=R.oLt y h1;omega
  rcases h3 with h3|h3|h3
  ·have:=hlts y h3;omega
  ·omega
  omega
 ·show(s.xl++[ev]).length =(s.LX++[_]).length;rw[hlen,List.length_append,←R.eX.1];rfl
 ·have h9:i<(s.xl++[ev]).length :=hi';rw[hlen] at h9;by_cases e:i=s.xl.length
  ·have e1:gt (s.xl++[ev]) i=ev:=OG _ _ _ e.symm;have e2:Lx (s.LX++[(EU s.sd (s.g+1),Kf (AQ (Ao s.sd 0)) (Ao s.sd 0) s.u0 (EU s.sd (s.g+1)))]) i=(EU s.sd (s.g+1),Kf (AQ (Ao s.sd 0)) (Ao s.sd 0) s.u0 (EU s.sd (s.g+1))):=by
    unfold Lx;rw[List.getD_eq_getElem?_getD,List.getElem?_append_right (by rw[←R.eX.1];omega),e,R.eX.1,Nat.sub_self];rfl
   show Mu _ w' (Lx (s.LX++[_]) i).1 (Lx (s.LX++[_]) i).2 (gt (s.xl++[ev]) i).v0 (gt (s.xl++[ev]) i).v1;rw[e1,e2];exact hEx
  have hlt:i<s.xl.length:=by omega
  have e1:gt (s.xl++[ev]) i=gt s.xl i:=OF _ _ _ hlt;have e2:Lx (s.LX++[(EU s.sd (s.g+1),Kf (AQ (Ao s.sd 0)) (Ao s.sd 0) s.u0 (EU s.sd (s.g+1)))]) i=Lx s.LX i:=by
   unfold Lx;rw[List.getD_eq_getElem?_getD,List.getD_eq_getElem?_getD,List.getElem?_append_left (by rw[←R.eX.1];exact hlt)]
  show Mu _ w' (Lx (s.LX++[_]) i).1 (Lx (s.LX++[_]) i).2 (gt (s.xl++[ev]) i).v0 (gt (s.xl++[ev]) i).v1;rw[e1,e2];exact((R.eX.2 i hlt).chg ch hO).mono (fun y h=> .inl h)
 rcases h with h|h|h
 ·rcases h with h|h|h|h|h|⟨bd,e,h⟩
  ·exact .inl (.inl (.inl h))
  ·exact .inl (.inl (.inr (.inl h)))
  ·right;have h':x=zk:=h;omega
  ·exact .inl (.inl (.inr (.inr (.inr (.inl h)))))
  ·exact .inl (.inl (.inr (.inr (.inr (.inr (.inl h))))))
  rcases hXn' bd e with h3|h3
  ·have e':X'=some bd:=e;rw[h3] at e';exact .inl (.inl (.inr (.inr (.inr (.inr (.inr ⟨bd,e',h⟩))))))
  right;omega
 ·exact .inl (.inr h)
 right;omega
def rp0 (sd:Ak) (z0 z1:Nat):Il:=⟨sd,AQ (Ao sd 1),1,0,z0,z1,0,0,none,0,[],none,0,[],none,0,[],[], .slice none 0 0, .slice none 0 0,([],[]), .slice none 0 0, .slice none 0 0,([],[]),none,0,[],[],fun _=>False⟩
def Ai4 (sd:Ak) (zr:Nat) (w w':World):Prop:=∃z0 z1,FV w' zr (rp0 sd z0 z1)∧∀x,KX zr (rp0 sd z0 z1) x→w.heap.size≤x
theorem Xg (O:Nat→Prop) (w:World):Mu O w [] [] (.slice none 0 0) (.slice none 0 0):=⟨none,0,0,none,0,0,[],rfl,rfl,Rd.nil _ _,rfl,Nat.zero_le _,Nat.le_refl _,Rd.nil _ _,rfl,⟨Nat.zero_le _,Nat.le_refl _⟩,rfl,fun x hx=>(by cases hx),fun _ e=>(by cases e),fun _ e=>(by cases e),fun x hx=>(by cases hx)⟩
theorem OM (sd:Ak) (w:World):
    Calls Tryz.prog 6 #[.agg (Aw sd.l)] w fun e w'=>∃zr,e= .returned (.pointer (some ⟨zr,0,none⟩))∧Ag Ab w w'∧Ai4 sd zr w w':=by
 refine(PY sd w).mono ?_;rintro e w' ⟨zr,z0,z1,rfl,st,hn,hr,hk0,hk1⟩;obtain⟨n1,n2,n3,n4,n5,n6⟩:=hn.out;refine⟨zr,rfl,st,z0,z1,⟨hr,hk0,hk1,⟨Cm.nil _ _ _⟩,⟨Cm.nil _ _ _⟩,⟨Cm.nil _ _ _⟩,Rd.nil _ _,⟨n4,n5,n6⟩,fun _ e=>(by cases e),fun _ e=>(by cases e),fun _ e=>(by cases e),fun _ _ e=>(by cases e),fun _ _ e=>(by cases e),fun _ _ e=>(by cases e),fun _ h=>h.elim,fun _ h=>h.elim,fun _ e=>(by cases e),Xg _ _,Xg _ _,⟨rfl,fun i h=>absurd h (Nat.not_lt_zero _)⟩,⟨rfl,fun i h=>absurd h (Nat.not_lt_zero _)⟩⟩,fun x h=> ?_⟩;rcases h with h|h|h|⟨_,e,_⟩|⟨_,e,_⟩|⟨_,e,_⟩
 ·rw[h];exact n1
 ·rw[h];exact n2
 ·rw[h];exact n3
 ·cases e
 ·cases e
 cases e
end Go.Proofs.YtjjhceeookpieaaGreat
end
section
open Go Go.RowKit
namespace Go.Proofs.YtjjhceeookpieaaGreat
theorem Acj (m:List UInt8) (r:AC) (p:Ak):Gd m [r] [p] 1=if Ds m p r=true then[p] else[]:=by
 have h:AG [p] 0=p:=rfl;rw[Gd,Gd,h];simp
theorem WG (m:List UInt8) (r:AC) (p:Ak):BC m [r] [p] 1=Ds m p r:=by
 unfold BC;rw[show Nf [p] 1=true from rfl,show([p]:List Ak).length =1 from rfl,Acj];rcases Ds m p r with _|_<;>rfl
theorem Xz {α β:Type} {f:α→β} {l:List α} {y:β} (h:l.map f=[y]): ∃x,l=[x]∧f x=y:=by
 match l,h with
 |[x],h=>exact⟨x,rfl,by simpa using h⟩
theorem LS {m:List UInt8} {l:List AC} {pub seed:Ak} {used:Int} (h:l.map AC.mv=Kf pub seed used m) (hp:pub=AQ seed) (h0:0≤used) (h16:used<16) (p:Ak):BC m l [p] 1=decide (p=pub):=by
 obtain⟨r,rfl,hr⟩:=Xz h;obtain⟨e1,e2⟩:=Prod.mk.inj hr;obtain⟨e2,e3⟩:=Prod.mk.inj e2;obtain⟨e3,e4⟩:=Prod.mk.inj e3;rw[WG,Ds,e1,e2,e3,e4];by_cases e:p=pub
 ·subst e;rw[hp,TH seed used m h0 h16];simp
 have: ¬pub=p:=fun h=>e h.symm
 simp[e,this]
def Rg (E:Em) (x:Nx):Prop:=E.m=x.1∧E.l.map AC.mv=x.2
def DI (sd:Ak) (g:Int):Fg:=(g,1073741824,Vf (AQ (Ao sd 0)) (AQ (Ao sd g)))
theorem Ajf (a b:Ak) (g:Int) (h1:1≤g) (h2:g≤1000000):FW g 1073741824 (Vf a b)=true:=by
 unfold FW BE Ca Vf;rw[decide_eq_true h1,decide_eq_true (by omega)];rfl
theorem Af4 {v e:Int} {K:List (List Ak×Int)} (h:FW v e K=true) (h4:K.length=4):EP (Dg v e K)=true∧(Pt (Dg v e K):Int)=v∧(Zd (Dg v e K):Int)=e∧kK (Nz (Dg v e K)) 4=K:=by
 have h1:=Aa6 h h4;unfold ZG at h1;by_cases hk:EP (Dg v e K)=true
 ·rw[if_pos hk] at h1;obtain⟨a1,a2⟩:=Prod.mk.inj h1;obtain⟨a2,a3⟩:=Prod.mk.inj a2;obtain⟨a3,a4⟩:=Prod.mk.inj a3;exact⟨hk,a1,a2,a3⟩
 rw[if_neg hk] at h1;obtain⟨_,a2⟩:=Prod.mk.inj h1;obtain⟨_,a3⟩:=Prod.mk.inj a2;obtain⟨_,a4⟩:=Prod.mk.inj a3;cases a4
theorem Af5 {sd:Ak} {g u:Int} {E:Em} (hE:Rg E (EU sd (g+1),Kf (AQ (Ao sd 0)) (Ao sd 0) u (EU sd (g+1)))) (h1:1≤g) (h2:g≤1000) (h0:0≤u) (h16:u<16):
    EP E.m=true∧(Pt E.m:Int)=g+1∧Gi (DI sd g) E.m E.l=(g+1,1073741824,Vf (AQ (Ao sd 0)) (AQ (Ao sd (g+1))),0):=by
 obtain⟨e1,e2⟩:=hE;have hrt:EU sd (g+1)=Dg (g+1) 1073741824 (Vf (AQ (Ao sd 0)) (AQ (Ao sd (g+1)))):=rfl;obtain⟨a1,a2,a3,a4⟩:=Af4 (Ajf (AQ (Ao sd 0)) (AQ (Ao sd (g+1))) (g+1) (by omega) (by omega)) rfl;have e1':E.m=Dg (g+1) 1073741824 (Vf (AQ (Ao sd 0)) (AQ (Ao sd (g+1)))):=by rw[e1];exact hrt
 rw[←e1'] at a1 a2 a3 a4;refine⟨a1,a2, ?_⟩;have e2':E.l.map AC.mv=Kf (AQ (Ao sd 0)) (Ao sd 0) u E.m:=by rw[e2,e1]
 have hm:=LS e2' rfl h0 h16 (AQ (Ao sd 0));unfold Gi;rw[if_pos a1,if_pos (by rw[a2];show g+1 -1=g;omega),a4];show(if(BC E.m E.l [AQ (Ao sd 0)] 1&&BC E.m E.l [AQ (Ao sd 0)] 1)=true then _ else _)=_;rw[hm,decide_eq_true rfl,if_pos (show(true&&true)=true from rfl),a2,a3]
theorem Pj (sd:Ak): ∀(L:List Em) (a c:Int),0≤a→a+1≤c→a+L.length≤16→c≤17→(∀i:Nat,i<L.length→Rg (gt L i) (EU sd (a+2+i),Kf (AQ (Ao sd 0)) (Ao sd 0) (a+i) (EU sd (a+2+i))))→
    CS (DI sd c) L=(DI sd (if c≤a+1+L.length then a+1+L.length else c),0)
 |[],a,c,h0,hc,hl,h17,hE=>by
  rw[CS]
  congr 2
  split
  ·simp only[List.length_nil] at*;omega
  rfl
 |E::L,a,c,h0,hc,hl,h17,hE=>by
  have hE0:Rg E (EU sd (a+1+1),Kf (AQ (Ao sd 0)) (Ao sd 0) a (EU sd (a+1+1))):=by
   have h:=hE 0 (by simp);rw[show a+2+((0:Nat):Int)=a+1+1 by omega,show a+((0:Nat):Int)=a by omega] at h;exact h
  have hE1: ∀i:Nat,i<L.length→Rg (gt L i) (EU sd (a+1+2+i),Kf (AQ (Ao sd 0)) (Ao sd 0) (a+1+i) (EU sd (a+1+2+i))):=fun i hi=>by
   have h:=hE (i+1) (by simpa using hi);rw[show a+2+((i+1:Nat):Int)=a+1+2+i by omega,show a+((i+1:Nat):Int)=a+1+i by omega] at h;exact h
  simp only[List.length_cons] at hl;obtain⟨n1,n2,n3⟩:=Af5 (g:=a+1) hE0 (by omega) (by omega) h0 (by omega);have ih:=Pj sd L (a+1);rw[CS];by_cases h2:a+2≤c
  ·rw[n1,n2];have e9:decide (a+1+1≤(DI sd c).1)=true:=decide_eq_true (by show a+1+1≤c;omega);rw[e9,Bool.and_self,if_pos rfl,ih c (by omega) (by omega) (by omega) h17 hE1]
   congr 2
   simp only[List.length_cons];split<;>split<;>omega
  have hcc:c=a+1:=by omega
  subst hcc;rw[n1,n2];have e9:decide (a+1+1≤(DI sd (a+1)).1)=false:=decide_eq_false (by show ¬a+1+1≤a+1;omega);rw[e9,Bool.and_false,if_neg (by decide),n3,if_pos rfl];have hr:((a+1+1,1073741824,Vf (AQ (Ao sd 0)) (AQ (Ao sd (a+1+1)))):Fg)=DI sd (a+1+1):=rfl;show CS (a+1+1,1073741824,Vf (AQ (Ao sd 0)) (AQ (Ao sd (a+1+1)))) L=_;rw[hr,ih (a+1+1) (by omega) (by omega) (by omega) (by omega) hE1]
  congr 2
  simp only[List.length_cons];split<;>split<;>omega
theorem WI (sd:Ak) (L:List Em) (c g now:Int) (h1:1≤c) (hc:c≤g) (hg:g=1+L.length) (h16:L.length≤16) (hn:now<1073741824) (hE: ∀i:Nat,i<L.length→Rg (gt L i) (EU sd (2+i),Kf (AQ (Ao sd 0)) (Ao sd 0) i (EU sd (2+i)))):
    CT (DI sd c) L now=(DI sd g,0):=by
 have h:=Pj sd L 0 c (by omega) (by omega) (by omega) (by omega) (fun i hi=>by
  have h9:=hE i hi;rw[show(0:Int)+2+i=2+i by omega,show(0:Int)+i=i by omega];exact h9)
 rw[show(if c≤0+1+(L.length:Int) then 0+1+(L.length:Int) else c)=g by split<;>omega] at h;unfold CT;rw[h,if_pos rfl,if_neg (by show ¬(1073741824:Int)≤now;omega)]
theorem SI (sd:Ak) (g:Int) (i:Nat) (hi:1≤i) (h4:i<4):BU (DI sd g) i=([AQ (Ao sd g)],1):=by
 match i,hi,h4 with
 |1,_,_=>rfl
 |2,_,_=>rfl
 |3,_,_=>rfl
theorem Ack {v e s:Int} (h:IP v e s=true) (hh:Ak):UW (IQ v e s hh)=true∧mtV (IQ v e s hh)=v∧mtE (IQ v e s hh)=e∧SW (IQ v e s hh)=s∧UP (IQ v e s hh)=hh:=by
 obtain⟨h1,h2⟩:=Ado h hh;unfold ZA BI at h2;have h3:=congrArg Array.toList h2;simp only[List.cons.injEq,Value.int.injEq,true_and] at h3;exact⟨h1,h3.1,h3.2.1,h3.2.2.1,Ak.ext' (ZK h3.2.2.2)⟩
theorem Zx {v e:Int} {P:List AE} (h:BO v e P=true):Gf (CY v e P)=true∧(Qc (CY v e P):Int)=v∧(Qd (CY v e P):Int)=e∧KY (CY v e P)=P:=by
 have h1:=Aa5 h;unfold snM at h1;by_cases hk:Gf (CY v e P)=true
 ·rw[if_pos hk] at h1;obtain⟨a1,a2⟩:=Prod.mk.inj h1;obtain⟨a2,a3⟩:=Prod.mk.inj a2;obtain⟨a3,a4⟩:=Prod.mk.inj a3;exact⟨hk,a1,a2,a3⟩
 rw[if_neg hk] at h1;obtain⟨_,a2⟩:=Prod.mk.inj h1;obtain⟨_,a3⟩:=Prod.mk.inj a2;obtain⟨_,a4⟩:=Prod.mk.inj a3;cases a4
def Zy (sd:Ak) (g v x:Int) (T:List Ad):Zu:=⟨DI sd g,true,v,x,v,Gw (VZ v x),v,x,[⟨CF,v⟩],[(CF,v,x,T,[])]⟩
structure LT (t:Zu) (sd:Ak) (g v:Int):Prop where
 root: ∃c,1≤c∧c≤g∧t.r=DI sd c
 tv:t.set=true→t.tv≤v∧t.ts≤v
 sp:t.set=true→∃v',v'≤v∧t.sp=[⟨CF,v'⟩]
structure SJ (b:IM) (sd:Ak) (g k v x u:Int) (T:List Ad):Prop where
 xg:g=1+b.X.length
 x16:b.X.length≤16
 xs: ∀i:Nat,i<b.X.length→Rg (gt b.X i) (EU sd (2+i),Kf (AQ (Ao sd 0)) (Ao sd 0) i (EU sd (2+i)))
 t:Rg b.t (ZF v x,Kf (AQ (Ao sd k)) (Ao sd k) (u+1+1) (ZF v x))
 s:Rg b.s (VZ v x,Kf (AQ (Ao sd k)) (Ao sd k) (u+1) (VZ v x))
 g1:b.G.length=1
 gs:Rg (gt b.G 0) (sgT v x T,Kf (AQ (Ao sd k)) (Ao sd k) u (sgT v x T))
theorem SK {t:Zu} {b:IM} {sd:Ak} {g v x u now:Int} {T:List Ad} (hb:SJ b sd g g v x u T) (ho:LT t sd g v) (hn:now<x) (hx:x≤1073741824) (hx0:0≤x) (hv:1≤v) (hv9:v≤1000000) (hu:0≤u) (hu3:u≤13) (hT:DO CF v x T []=true):
    KV t b now=(Zy sd g v x T,0):=by
 obtain⟨c,c1,c2,hc⟩:=ho.root;have hver:BE v=true:=by unfold BE;rw[decide_eq_true hv,decide_eq_true (by omega)];rfl
 have hnum:Ca x=true:=by unfold Ca;rw[decide_eq_true hx0,decide_eq_true (by omega)];rfl
 have h1:=WI sd b.X c g now c1 c2 hb.xg hb.x16 (by omega) hb.xs;have hMe:ZF v x=IQ v x v (Gw (VZ v x)):=rfl;have hbt:b.t.m=ZF v x:=hb.t.1;obtain⟨t1,t2,t3,t4,t5⟩:=Ack (Ab5 v x hver hnum) (Gw (VZ v x));rw[←hMe,←hbt] at t1 t2 t3 t4 t5;obtain⟨s1,s2,s3,s4⟩:=Zx (Ab4 v x hver hnum);have hSe:b.s.m=CY v x [⟨CF,v⟩]:=hb.s.1;rw[←hSe] at s1 s2 s3 s4;have hTm:Gh CF v x T []=true:=by
  have:=Xu CF v x T [];rw[hT] at this;exact this.symm
 have hTe:(gt b.G 0).m =Et CF v x T []:=by
  rw[hb.gs.1];exact Aa3 CF v x rfl rfl
 have q1:=WU hTm [];have q2:=WV hTm [];rw[List.append_nil] at q1 q2;rw[←hTe] at q1 q2;obtain⟨q3,q4,q5,q6,q7,_⟩:=q1;have et:b.t.l.map AC.mv=Kf (AQ (Ao sd g)) (Ao sd g) (u+1+1) b.t.m:=by rw[hb.t.2,hb.t.1]
 have es:b.s.l.map AC.mv=Kf (AQ (Ao sd g)) (Ao sd g) (u+1) b.s.m:=by rw[hb.s.2,hb.s.1]
 have eg:(gt b.G 0).l.map AC.mv=Kf (AQ (Ao sd g)) (Ao sd g) u (gt b.G 0).m :=by rw[hb.gs.2,hb.gs.1]
 have hte:EL t.set t.tv t.ts (BU (DI sd g) 1) b.t.m b.t.l now=0:=by
  rw[SI sd g 1 (by decide) (by decide)];unfold EL;rw[LS et rfl (by omega) (by omega),decide_eq_true rfl,if_pos rfl,if_pos t1,t2,t3,t4];have hno:(t.set&&(decide (v<t.tv)||decide (v<t.ts)))=false:=by
   cases hs:t.set with
   |false=>rfl
   |true=>
    obtain⟨o1,o2⟩:=ho.tv hs;rw[decide_eq_false (by omega),decide_eq_false (by omega)];rfl
  rw[hno,if_neg (by decide),if_neg (by omega)]
 have hse:Fu t.set t.sp (BU (DI sd g) 2) (SW b.t.m) (UP b.t.m) b.s.m b.s.l now=0:=by
  rw[SI sd g 2 (by decide) (by decide),t4,t5];unfold Fu;rw[if_pos (by rw[hb.s.1]),LS es rfl (by omega) (by omega),decide_eq_true rfl,if_pos rfl,if_pos s1,if_pos s2,s3,s4];have hno:(t.set&&FX t.sp [⟨CF,v⟩])=false:=by
   cases hs:t.set with
   |false=>rfl
   |true=>
    obtain⟨v',o1,o2⟩:=ho.sp hs;rw[o2];show(if(match Dy [⟨CF,v⟩] CF with|none=>true|some z=>decide (z<v'))=true then true else false)=false;rw[show Dy [⟨CF,v⟩] CF=some v from rfl];show(if decide (v<v')=true then true else false)=false;rw[decide_eq_false (by omega)];rfl
  rw[hno,if_neg (by decide),if_neg (by omega)]
 have hge:GQ (BU (DI sd g) 3) (KY b.s.m) now [] b.G=([(CF,v,x,T,[])],0):=by
  obtain⟨E,hE⟩: ∃E,b.G=[E]:=by
   match h:b.G,hb.g1 with
   |[E],_=>exact⟨E,rfl⟩
  have hE0:gt b.G 0=E:=by rw[hE];rfl
  rw[hE0] at q2 q3 q4 q5 q6 q7 eg;rw[hE,GQ,s4,SI sd g 3 (by decide) (by decide)];have ho:FY ([AQ (Ao sd g)],1) [⟨CF,v⟩] [] E.m E.l now=0:=by
   unfold FY;rw[q2,q3,q4,q5];show(if(true&&!false&&(false||decide (CF=CF)))=true then(if BC E.m E.l [AQ (Ao sd g)] 1=true then(match Dy [⟨CF,v⟩] CF with|none=>(9:Int)|some z=>if z=v then(if x≤now then 7 else 0) else 6) else 4) else 2)=0;rw[decide_eq_true rfl,LS eg rfl hu (by omega),decide_eq_true rfl,if_pos rfl,if_pos (show(true&&!false&&(false||true))=true from rfl),show Dy [⟨CF,v⟩] CF=some v from rfl];show(if v=v then(if x≤now then(7:Int) else 0) else 6)=0;rw[if_pos rfl,if_neg (by omega)]
  rw[ho,if_pos rfl,GQ,List.nil_append];unfold UQ;rw[q3,q4,q5,q6,q7]
 unfold KV;rw[hc,h1];show(if(0:Int)=0 then(if EL t.set t.tv t.ts (BU (DI sd g) 1) b.t.m b.t.l now=0 then(if Fu t.set t.sp (BU (DI sd g) 2) (SW b.t.m) (UP b.t.m) b.s.m b.s.l now=0 then(if b.G.length=0 then(t,(9:Int)) else if 16<b.G.length then(t,2) else if(GQ (BU (DI sd g) 3) (KY b.s.m) now [] b.G).2=0 then(⟨DI sd g,true,mtV b.t.m,mtE b.t.m,SW b.t.m,UP b.t.m,(Qc b.s.m:Int),(Qd b.s.m:Int),KY b.s.m,(GQ (BU (DI sd g) 3) (KY b.s.m) now [] b.G).1⟩,0) else(t,_)) else(t,_)) else(t,_)) else(t,_))=_;rw[if_pos rfl,hte,if_pos rfl,hse,if_pos rfl,hb.g1,if_neg (by decide),if_neg (by decide),hge,t2,t3,t4,t5,s2,s3,s4];rfl
end Go.Proofs.YtjjhceeookpieaaGreat
end
section
set_option maxRecDepth 100000
set_option maxHeartbeats 3200000
open Go Go.RowKit
namespace Go.Proofs.YtjjhceeookpieaaGreat
theorem FV.next0 {w w':World} {zr:Nat} {s:Il} (R:FV w zr s) (c:Au (only s.z0) w w') (hk:AH w' s.z0 (Ao s.sd 0) s.u0):Hq w w' zr s s:=by
 have st:Ag (only s.z0) w w':=⟨c⟩;have i1:=R.hb;have i3:=R.k1;have i4:=R.hB;have i5:=R.hC;have i6:=R.hX;have o1:As (only s.z0) zr:=⟨fun h=>R.ap.1 (show zr=s.z0 from h).symm⟩;have o3:As (only s.z0) s.z1:=⟨fun h=>R.ap.2.2 (show s.z1=s.z0 from h).symm⟩;have o4:BW (only s.z0) s.B:=⟨fun ad e h=>(R.aB ad e).2.1 h⟩;have o5:BW (only s.z0) s.C:=⟨fun ad e h=>(R.aC ad e).2.1 h⟩;have o6:BW (only s.z0) s.X:=⟨fun ad e h=>(R.aX ad e).2.1 h⟩;have hO: ∀y,s.O y→¬only s.z0 y:=fun y h1 h2=>R.oM y h1 (.inr (.inl h2))
 exact⟨c.mono (fun x _ h=> .inr (.inl h)),⟨inferInstance,hk,inferInstance,inferInstance,inferInstance,inferInstance,R.hG.chg c (fun _ ad e h=>hO _ (R.gO ad e) h),R.ap,R.aB,R.aC,R.aX,R.aBC,R.aBX,R.aCX,fun y h=>Nat.lt_of_lt_of_le (R.oLt y h) c.size,R.oM,R.gO,R.et.chg c hO,R.es.chg c hO,R.eX.chg c hO,R.eG.chg c hO⟩,fun x h=> .inl h⟩
theorem Ua {w:World} {zr:Nat} {s:Il} (R:FV w zr s):
    Calls Tryz.prog 7 #[.pointer (some ⟨zr,0,none⟩)] w fun e w'=>∃K:List KR,e= .returned (.agg (BA 1 1073741824 K).toArray)∧K.length=4∧Hq w w' zr s s:=by
 have hb:=R.hb;have hk:=R.k0;refine(Um (zk:=s.z0) (zr:=zr) R.ap.1).mono ?_;rintro e w' ⟨K,rfl,hK,st,hk'⟩;exact⟨K,rfl,hK,R.next0 st.chg hk'⟩
theorem Sa {w wr w':World} {zr:Nat} {s s':Il} (hw:Nw w wr) (N:Hq wr w' zr s s') (lo: ∀x,KX zr s x∨s.O x→w.heap.size≤x):Nw w w'∧∀x,KX zr s' x∨s'.O x→w.heap.size≤x:=
 ⟨⟨hw.out.trans N.st (fun x hx h=>by have:=lo x (.inl h);omega)⟩,fun x h=>by
  rcases N.fr x h with h1|h1
  ·exact lo x h1
  exact Nat.le_trans hw.out.size h1⟩
def NH:Ak:=⟨1::List.replicate 31 0,by simp⟩
theorem Ael (w:World):(Instr.build 23 #[(0, .int .u8 1)]).run Tryz.prog w= .ok (.agg (Aw NH.l)) w:=by kernel_rfl
theorem Jv (w:World):Calls Tryz.prog 16 #[] w fun e w'=>e= .returned (.bool true)∧Ag Ab w w':=by
 go_enter Tryz.func16,Tryz.ntmps16;go_wp2_with (first|(refine Ji (Ael _) ?_));refine(OM NH _).mono ?_;rintro e w1 ⟨zr,rfl,st1,z0,z1,R1,hlo1⟩;obtain⟨s,hs⟩: ∃s,s=rp0 NH z0 z1:=⟨_,rfl⟩;rw[←hs] at R1 hlo1;have hT0:s.T=[]:=by rw[hs];rfl
 have hD0:s.D=[]:=by rw[hs];rfl
 have hu1:s.u1=0:=by rw[hs];rfl
 have hv:s.v=0:=by rw[hs];rfl
 have hx0:s.xl.length=0:=by rw[hs];rfl
 have hg0:s.gl.length=0:=by rw[hs];rfl
 have hO0: ∀x,¬s.O x:=by rw[hs];exact fun _ h=>h
 have lo1: ∀x,KX zr s x∨s.O x→w.heap.size≤x:=fun x h=>by
  rcases h with h|h
  ·exact hlo1 x h
  exact absurd h (hO0 x)
 have nw1:Nw w w1:=⟨st1.chg⟩;clear hs hlo1 hO0 st1;have hC2:=Ua R1;go_wp2_with fail;refine hC2.mono ?_;rintro e w2 ⟨K,rfl,hK,N2⟩;obtain⟨nw2,lo2⟩:=Sa nw1 N2 lo1;have R2:=N2.at';have hsK:=BG 1 1073741824 K hK;have hf0: ∀w,(Instr.field 33 (.agg (BA 1 1073741824 K).toArray) 0).run Tryz.prog w= .ok (.int .i64 1) w:=fun _=>by kernel_rfl
 have hf3: ∀A1 n1 c1 a b c d A' n c' w,(Instr.field 60 (.agg #[.slice A1 n1 c1,a,b,c,d, .slice A' n c']) 3).run Tryz.prog w= .ok (.slice A' n c') w:=fun _ _ _ _ _ _ _ _ _ _ _=>by kernel_rfl
 have hC3:=Hr R2 (by omega) (by omega);rw[hx0,hg0] at hC3;clear hC2 N2 R1 lo1 nw1;go_wp2_with fail;refine hC3.mono ?_;rintro e w3 ⟨a,b,c,d,A1,c1,A2,c2,rfl,st3,_⟩;have R3:=R2.nw st3.chg;have nw3:Nw w w3:=⟨nw2.out.trans st3.chg (fun _ _ h=>h)⟩;have hC4:=Ng R3 0 1 (by rw[hT0];exact(fun i j _ h=>absurd h (Nat.not_lt_zero _))) (by rw[hT0];exact fun t h=>(by cases h)) (by rw[hT0];exact Nat.zero_le _) (by rw[hD0];exact Nat.zero_le _) (by omega) (by omega) (by omega) (by omega) (by decide) (by decide) (by decide);clear hC3 R2 nw2;go_wp2_with fail;refine hC4.mono ?_;rintro e w4 ⟨rfl,xa,xb,xc,xd,zE,ev,C',cc',O',N4⟩;obtain⟨nw4,lo4⟩:=Sa nw3 N4 lo2;have R4:=N4.at';have hC5:=Hr R4 (by show s.xl.length≤_;omega) (by show 1≤_;decide)
 dsimp only at hC5
 rw[hx0,show[ev].length =1 from rfl] at hC5;clear hC4 N4 R3 lo2 nw3;go_wp2_with fail;refine hC5.mono ?_;rintro e w5 ⟨a,b,c,d,A1,c1,A2,c2,rfl,st5,_⟩;go_wp2_with fail;go_ret;exact⟨rfl,Aa⟩
end Go.Proofs.YtjjhceeookpieaaGreat
end
