/- RlF -/
import Derived.Test.YtjjhceeookpieaaGreatUhZ
import Derived.Test.YtjjhceeookpieaaGreatUhRsF
import Derived.Test.YtjjhceeookpieaaGreatUhRlA
set_option maxRecDepth 100000
set_option maxHeartbeats 12800000
open Go Go.RowKit
namespace Go.Proofs.YtjjhceeookpieaaGreat
def sgT (v x:Int) (T:List Ad):List UInt8:=Ae [4]++Qf CF v x T.length 0 T []
def VZ (v x:Int):List UInt8:=CY v x [⟨CF,v⟩]
def ZF (v x:Int):List UInt8:=Ae [2]++(Ae [v,x,v]++(Gw (VZ v x)).l)
def Xd (zk zr:Nat) (C:Option Addr):Nat→Prop:=fun x=>x=zk∨x=zr∨An C x
def SgQ (sd f seed:Ak) (p0:Value) (g v x:Int) (xr:Value) (C:Option Addr) (cn:Nat) (B:Option Addr) (m d:Nat) (T D:List Ad) (zr zk:Nat) (used:Int) (w w':World):Prop:=
 ∃a b c d2 zE,∃(ev:JY) (C':Option Addr) (cc' lo hi:Nat),Ag (Xd zk zr C) w w'∧AH w' zk seed (used+3)∧
     HB w' zr 84 (Bg sd p0 (.pointer (some ⟨zk,0,none⟩)) f g (v+1) [.slice B m d,xr,a,b,c,d2, .slice (some ⟨zE,0,none⟩) 1 1, .slice C' (cn+m) cc']).toArray ∧HO w' 44 37 B m d (cellsOf T)∧HO w' 44 37 C' (cn+m) cc' (cellsOf (D++T))∧
     Hid ((∀ad,C'=some ad→C'=C∨hi≤ad.block)∧w.heap.size≤lo∧hi≤w'.heap.size∧lo≤zE∧zE<hi)∧
     Hid (NJ w' lo hi (ZF (v+1) x) (Kf (AQ seed) seed (used+1+1) (ZF (v+1) x)) a b∧NJ w' lo hi (VZ (v+1) x) (Kf (AQ seed) seed (used+1) (VZ (v+1) x)) c d2∧NJ w' lo hi (sgT (v+1) x T) (Kf (AQ seed) seed used (sgT (v+1) x T)) ev.v0 ev.v1)∧HR w' (some ⟨zE,0,none⟩) (cellsOf [ev])
theorem NJ.wide {w:World} {lo hi hi2:Nat} {m:List UInt8} {P:List Pu} {v0 v1:Value} (h:NJ w lo hi m P v0 v1) (hh:hi≤hi2):NJ w lo hi2 m P v0 v1:=by
 obtain⟨M,nb,cb,A,n,c1,l,e0,e1,h1,h2,h3,h3',h4,h5,h6,h7,h8,g1,g2,g3⟩:=h;exact⟨M,nb,cb,A,n,c1,l,e0,e1,h1,h2,h3,h3',h4,h5,h6,h7,h8,fun ad e=>⟨(g1 ad e).1,Nat.lt_of_lt_of_le (g1 ad e).2 hh⟩,fun ad e=>⟨(g2 ad e).1,Nat.lt_of_lt_of_le (g2 ad e).2 hh⟩,fun x hx=>⟨fun ad e=>⟨((g3 x hx).1 ad e).1,Nat.lt_of_lt_of_le ((g3 x hx).1 ad e).2 hh⟩,fun ad e=>⟨((g3 x hx).2 ad e).1,Nat.lt_of_lt_of_le ((g3 x hx).2 ad e).2 hh⟩⟩⟩
theorem TU {sd f seed:Ak} {p0:Value} {g v now life:Int} {xr t0 t1 s0 s1 xg:Value} {C:Option Addr} {cn cc:Nat} {B:Option Addr} {m d:Nat} {T D:List Ad} {zr zk:Nat} {used:Int} {w:World}
    [hb:HB w zr 84 (Bg sd p0 (.pointer (some ⟨zk,0,none⟩)) f g v [.slice B m d,xr,t0,t1,s0,s1,xg, .slice C cn cc]).toArray] [hk:AH w zk seed used]
    [ht:HO w 44 37 B m d (cellsOf T)] [hC:HO w 44 37 C cn cc (cellsOf D)] (hTm:T.length=m) (hDn:D.length=cn) (hm16:m≤16) (hcn:cn≤1000000)
    (hne:zk≠zr) (hBk: ∀ad,B=some ad→ad.block≠zk∧ad.block≠zr) (hCk: ∀ad,C=some ad→ad.block≠zk∧ad.block≠zr) (hBC: ∀ad bd,B=some ad→C=some bd→ad.block≠bd.block) (h0:0≤used) (h13:used≤13) (hv0:0≤v) (hv9:v≤1000000000) (hn0:0≤now) (hl0:0≤life) (hnl:now+life≤1073741824)
    (hT:DO CF (v+1) (now+life) T []=true) (hS:BO (v+1) (now+life) [⟨CF,v+1⟩]=true) (hM:IP (v+1) (now+life) (v+1)=true)
    (hTl:(sgT (v+1) (now+life) T).length ≤100000) (hSl:(VZ (v+1) (now+life)).length ≤100000) (hMl:(ZF (v+1) (now+life)).length ≤100000):
    Calls Tryz.prog 11 #[.pointer (some ⟨zr,0,none⟩), .int .i64 now, .int .i64 life] w fun e w'=>e= .returned (.int .i64 0)∧SgQ sd f seed p0 g v (now+life) xr C cn B m d T D zr zk used w w':=by
 subst hTm;have HB0:=Lib.hid ht.out;have HC0:=Lib.hid hC.out;have HT:=Lib.hid hT;have HS:=Lib.hid hS;have HM:=Lib.hid hM;have HTl:=Lib.hid hTl;have HSl:=Lib.hid hSl;have HMl:=Lib.hid hMl;have hI1: ¬now<0:=by omega
 have hI2: ¬1073741824<now:=by omega
 have hI3: ¬life<0:=by omega
 have hI4: ¬1073741824 -now<life:=by omega
 have hI5: ¬13<used:=by omega
 clear hT hS hM hTl hSl hMl ht hC;go_enter Tryz.func11,Tryz.ntmps11;go_wp2_with (first|(refine SS 33 hb (Sk _ _ _ _ _ _ _) ?_));refine IA.mono ?_;rintro e w1 ⟨rfl,st1⟩;have hb1:HB w1 zr 84 (Bg sd p0 (.pointer (some ⟨zk,0,none⟩)) f g v [.slice B T.length d,xr,t0,t1,s0,s1,xg, .slice C cn cc]).toArray :=inferInstance;have hk1:AH w1 zk seed used:=inferInstance;go_wp2_with (first|(refine SS 67 hb1 (Ais _ _ _ _ _ _ _) ?_));have hzrl:=hb.out.lt;have hzkl:=hk.lt;have orz:As (only zk) zr:=⟨fun e=>hne (show zr=zk from e).symm⟩;have hs1:w.heap.size≤w1.heap.size:=st1.chg.size;have hslz:=Gv (AQ seed) (.func (.func 28) #[.pointer (some ⟨zk,0,none⟩)] #[]) 0;refine Ah ((only zk)) (by kernel_rfl) (fun wd _ _=> ?_);refine YS 0 ?_;refine YS 1 ?_;refine YS 2 ?_;refine IS 3 33 (Sk _ _ _ _ _ _ _) ?_;refine YS 5 ?_;refine YS 6 ?_;refine YS 7 ?_;refine IS 8 33 (Sk _ _ _ _ _ _ _) ?_;refine YS 9 ?_;refine wpAnyH_ready (rs:=[4,11]) (by kernel_rfl) (by simp) (AllReadyH.cons rfl (fun K_ hK_=> ?_) (AllReadyH.cons rfl (fun K_ hK_=> ?_) AllReadyH.nil))
 focus
  go_simp;refine(Bx (zk:=zk) (seed:=seed) (used:=used)).mono ?_;rintro e w2 ⟨rfl,st2,hk2⟩;refine Yz hK_ ?_;clear hK_ K_;refine YB 10 (JZ _ _) ?_;refine Yh 11 fun K_ hK_=> ?_
  (refine BB 9 ?_;intro z9 wz9 _ _ _)
  refine Yn hK_ ?_;clear hK_ K_;refine Yh 12 fun K_ hK_=> ?_
  (refine NN hslz (Gv _ _ _) (Sl _ _ _) ?_;intro wx stx hsx)
  refine Ym hK_ ?_;clear hK_ K_;refine Yd ?_
 rotate_left 1
 focus
  refine Yq ?_
  (refine BB 9 ?_;intro z9 wz9 _ _ _)
  refine Yn hK_ ?_;clear hK_ K_;refine Yg 4 fun K_ hK_=> ?_
  go_simp;refine(Bx (zk:=zk) (seed:=seed) (used:=used)).mono ?_;rintro e w2 ⟨rfl,st2,hk2⟩;refine Yz hK_ ?_;clear hK_ K_;refine YB 10 (JZ _ _) ?_;refine Yh 12 fun K_ hK_=> ?_
  (refine NN hslz (Gv _ _ _) (Sl _ _ _) ?_;intro wx stx hsx)
  refine Ym hK_ ?_;clear hK_ K_;refine Yd ?_
 rotate_left 1
 all_goals
  have hz9:w1.heap.size≤z9:=by
   first
    |exact Nat.le_trans (inferInstance:Ay w1 w2).out (Nat.le_of_eq (inferInstance:AW w2 z9).eq.symm)
    |exact Nat.le_trans (inferInstance:Ay w1 wd).out (Nat.le_of_eq (inferInstance:AW wd z9).eq.symm)
  have hk9:zk≠z9:=by omega
  have hr9:zr≠z9:=by omega
  have o9k:As (only z9) zk:=⟨hk9⟩;have ok9:As (only zk) z9:=⟨fun e=>hk9 (show z9=zk from e).symm⟩;have o9r:As (only z9) zr:=⟨hr9⟩;have ot9:As (FF zk z9) zr:=⟨fun h=>by rcases h with h|h;exact hne h.symm;exact hr9 h⟩;have hkx:AH wx zk seed used:=inferInstance;have hbx:HB wx zr 84 (Bg sd p0 (.pointer (some ⟨zk,0,none⟩)) f g v [.slice B T.length d,xr,t0,t1,s0,s1,xg, .slice C cn cc]).toArray :=inferInstance;have hcx1:Au (only zk) w1 wx:=(inferInstance:Ch (only zk) w1 wx).out;have hCwx:Hid (Au (FF zk zr) w wx):=Lib.hid ((st1.chg.mono (T:=FF zk zr) (fun _ _ h=>h.elim)).trans hcx1 (fun _ _ h=> .inl h));obtain⟨LO,hLO⟩: ∃n,n=wx.heap.size:=⟨_,rfl⟩;have hz9l:=hsx.out.lt;have hkl9:zk<LO:=by have:=hkx.lt;omega
  have hrl9:zr<LO:=by have:=hbx.out.lt;omega
  have hoBx:Cm wx 44 37 B T.length d (cellsOf T):=HB0.out.chg hCwx.out (fun ad e h=>by rcases h with h|h;exact(hBk ad e).1 h;exact(hBk ad e).2 h);have hrB:HR wx B (cellsOf T):=⟨hoBx.rd⟩;clear hoBx;have hrD: ∀w,HR w none (cellsOf ([]:List Ax)):=fun w=>⟨Rd.nil _ _⟩
  clear hb1 hk1 hk2 st2 stx hb hk hcx1 st1;go_wp2_with (first|(refine SS 68 hbx (GJ _ _ _ _ _ _ _ _) ?_));refine(Gm CF (v+1) (now+life) (P:=T) (D:=[]) rfl rfl (fun k hk=>by cases hk) (by omega) (by decide)).mono ?_;unfold AR;rw[HT.out];rintro e w3a ⟨st3a,A3,n3,c3,rfl,hn3,hO3,hN3⟩;have HN3:=Lib.hid hn3;clear hn3;have hk3a:AH w3a zk seed used:=inferInstance;have hs3a:HB w3a z9 94 (Je (AQ seed) (.func (.func 28) #[.pointer (some ⟨zk,0,none⟩)] #[]) 0).toArray :=inferInstance;have hb3a:HB w3a zr 84 (Bg sd p0 (.pointer (some ⟨zk,0,none⟩)) f g v [.slice B T.length d,xr,t0,t1,s0,s1,xg, .slice C cn cc]).toArray :=inferInstance;have hC3a:Hid (Au (FF zk zr) w w3a):=Lib.hid (hCwx.out.trans (Aa (w0:=wx) (w:=w3a)).chg (fun _ _ h=>h.elim));have hA3:Hid (Au Ab wx w3a):=Lib.hid (Aa (w0:=wx) (w:=w3a)).chg;have sz3a:wx.heap.size≤w3a.heap.size:=(Aa (w0:=wx) (w:=w3a)).chg.size;have hO3r:HR w3a A3 (bs _):=⟨hO3.out.rd⟩;go_wp2_with fail;have qa3:=OV hO3.out;have qb3:n3≤100000:=by rw[HN3.out];exact HTl.out
  have qc3:=JD (zs:=z9) (zk:=zk) (pub:=AQ seed) (seed:=seed) (used:=used) (w:=w3a) HN3.out.symm qa3 qb3 (by omega) (by omega) hk9 (fun ad e=>by have:=hN3.out ad e;constructor<;>omega) LO (by omega) (fun ad e=>⟨by have:=hN3.out ad e;omega,hO3.out.lt e⟩);refine qc3.mono ?_;clear qc3;rintro e w3b ⟨v3,rfl,st3b,hk3b,hs3b,hE3⟩;have o31:=hE3.out.v.one.2;have hone3:(#[.slice A3 n3 c3,v3]:Array Value).all (·.oneCell')=true:=DW _ _ rfl o31;have szb3:=st3b.chg.size;go_wp2_with (first|(refine Ji (Abu _ _) ?_)|(refine BM 73 (Abv _ _) ?_;intro zp wb _ _ _)|(refine Ji (Zj _ _ _ _ _ _) ?_)|(refine BB 10 ?_;intro z10 wz10 _ _ _)|(refine Bt ?_;intro ws _ _));have hz10:w3b.heap.size≤z10:=Nat.le_of_eq (inferInstance:AW w3b z10).eq.symm;have hk3c:AH wb zk seed (used+1):=inferInstance;have hs3c:HB wb z9 94 (Je (AQ seed) (.func (.func 28) #[.pointer (some ⟨zk,0,none⟩)] #[]) 0).toArray :=inferInstance;have hb3c:HB wb zr 84 (Bg sd p0 (.pointer (some ⟨zk,0,none⟩)) f g v [.slice B T.length d,xr,t0,t1,s0,s1,xg, .slice C cn cc]).toArray :=inferInstance;have he3c:HB wb z10 58 #[.slice A3 n3 c3,v3]:=inferInstance;have hcN3:Au Ab w3b wb:=(Aa (w0:=w3b) (w:=wb)).chg;have hCwb:Hid (Au (FF zk zr) w wb):=Lib.hid ((hC3a.out.trans st3b.chg (fun x hx h=>by
   rcases h with h|h
   ·exact .inl h
   omega)).trans hcN3 (fun _ _ h=>h.elim))
  have hX3:=Lib.hid (hE3.out.chg hcN3 (fun _ _ _ h=>h));have szc3:=hcN3.size;have ot3:As (FF zk z9) z10:=⟨fun h=>by rcases h with h|h<;>omega⟩;have hrP:HR wb (some ⟨zp,0,none⟩) (cellsOf [(⟨CF,v+1⟩:AE)]):=HB.cells inferInstance;clear hk3a hs3a hb3a hk3b hs3b hcN3 hO3r hO3 hN3 qa3 qb3 HN3 hE3 st3a st3b
  skip
  refine(Mv (v+1) (now+life) (P:=[⟨CF,v+1⟩]) rfl (show 1≤9223372036854775807 by decide)).mono ?_;unfold AR;rw[HS.out];rintro e w4a ⟨st4a,A4,n4,c4,rfl,hn4,hO4,hN4⟩;have HN4:=Lib.hid hn4;clear hn4;have hk4a:AH w4a zk seed (used+1):=inferInstance;have hs4a:HB w4a z9 94 (Je (AQ seed) (.func (.func 28) #[.pointer (some ⟨zk,0,none⟩)] #[]) 0).toArray :=inferInstance;have hb4a:HB w4a zr 84 (Bg sd p0 (.pointer (some ⟨zk,0,none⟩)) f g v [.slice B T.length d,xr,t0,t1,s0,s1,xg, .slice C cn cc]).toArray :=inferInstance;have hC4a:Hid (Au (FF zk zr) w w4a):=Lib.hid (hCwb.out.trans (Aa (w0:=wb) (w:=w4a)).chg (fun _ _ h=>h.elim));have hA4:Hid (Au Ab wb w4a):=Lib.hid (Aa (w0:=wb) (w:=w4a)).chg;have sz4a:wb.heap.size≤w4a.heap.size:=(Aa (w0:=wb) (w:=w4a)).chg.size;have hO4r:HR w4a A4 (bs _):=⟨hO4.out.rd⟩;go_wp2_with fail;have qa4:=OV hO4.out;have qb4:n4≤100000:=by rw[HN4.out];exact HSl.out
  have qc4:=JD (zs:=z9) (zk:=zk) (pub:=AQ seed) (seed:=seed) (used:=(used+1)) (w:=w4a) HN4.out.symm qa4 qb4 (by omega) (by omega) hk9 (fun ad e=>by have:=hN4.out ad e;constructor<;>omega) LO (by omega) (fun ad e=>⟨by have:=hN4.out ad e;omega,hO4.out.lt e⟩);refine qc4.mono ?_;clear qc4;rintro e w4b ⟨v4,rfl,st4b,hk4b,hs4b,hE4⟩;have o41:=hE4.out.v.one.2;have hone4:(#[.slice A4 n4 c4,v4]:Array Value).all (·.oneCell')=true:=DW _ _ rfl o41;have szb4:=st4b.chg.size;go_wp2_with (first|(refine BB 11 ?_;intro z11 wz11 _ _ _)|((with_reducible apply Ac);exact rfl;infer_instance;(first|(exact rfl)|(exact tg_hw _)|(exact tg_ctr _)|(exact tg_ecu _)|(exact srch_who)|exact srch_fd))|(refine Bt ?_;intro ws _ _));have hz11:w4b.heap.size≤z11:=Nat.le_of_eq (inferInstance:AW w4b z11).eq.symm;have hk4c:AH ws zk seed (used+1+1):=inferInstance;have hs4c:HB ws z9 94 (Je (AQ seed) (.func (.func 28) #[.pointer (some ⟨zk,0,none⟩)] #[]) 0).toArray :=inferInstance;have hb4c:HB ws zr 84 (Bg sd p0 (.pointer (some ⟨zk,0,none⟩)) f g v [.slice B T.length d,xr,t0,t1,s0,s1,xg, .slice C cn cc]).toArray :=inferInstance;have he4c:HB ws z11 58 #[.slice A4 n4 c4,v4]:=inferInstance;have hcN4:Au Ab w4b ws:=(Aa (w0:=w4b) (w:=ws)).chg;have hCws:Hid (Au (FF zk zr) w ws):=Lib.hid ((hC4a.out.trans st4b.chg (fun x hx h=>by
   rcases h with h|h
   ·exact .inl h
   omega)).trans hcN4 (fun _ _ h=>h.elim))
  have hX4:=Lib.hid (hE4.out.chg hcN4 (fun _ _ _ h=>h));have szc4:=hcN4.size;have ot4:As (FF zk z9) z11:=⟨fun h=>by rcases h with h|h<;>omega⟩;have hX3_:=Lib.hid ((((hX3.out.chg hA4.out (fun _ _ _ h=>h)).chg st4b.chg (fun y h1 h2 h=>by rcases h with h|h<;>omega)).chg hcN4 (fun _ _ _ h=>h)));have he3c_:HB ws z10 58 #[.slice A3 n3 c3,v3]:=inferInstance;clear hX3 he3c;have hbd4:=hX4.out.body;clear hk4a hs4a hb4a hk4b hs4b hcN4 hO4r hO4 hN4 qa4 qb4 HN4 hE4 st4a st4b;obtain⟨wq,hwq⟩: ∃x:World,x=ws:=⟨_,rfl⟩;subst hwq;obtain⟨M4,hM4⟩: ∃M,M=CY (v+1) (now+life) [(⟨CF,v+1⟩:AE)]:=⟨_,rfl⟩;rw[←hM4] at hbd4 hX4;have hR4:HR wq A4 (bs M4):=⟨hbd4.1⟩;have hl4:=hbd4.2.1;have hc4:=hbd4.2.2.1;have hm4:=hbd4.2.2.2;have HM4:=Lib.hid hM4;clear hM4 hbd4;refine(Io (xs:=M4) hl4 hc4 (by omega)).mono ?_;rintro e w5z ⟨rfl,st5z⟩;have hCw5z:Hid (Au (FF zk zr) w w5z):=Lib.hid (hCws.out.trans st5z.chg (fun _ _ h=>h.elim));have hX4z:=Lib.hid (hX4.out.chg st5z.chg (fun _ _ _ h=>h));have hX3z:=Lib.hid (hX3_.out.chg st5z.chg (fun _ _ _ h=>h));have he4z:HB w5z z11 58 #[.slice A4 n4 c4,v4]:=inferInstance;have he3z:HB w5z z10 58 #[.slice A3 n3 c3,v3]:=inferInstance;have sz5z:=st5z.chg.size;clear hX4 hX3_ he4c he3c_;go_wp2_with (first|(refine Ji (Abw _ _ _ _ _) ?_));refine(ME (v+1) (now+life) (v+1) (Gw M4) _).mono ?_;unfold AR;rw[HM.out];rintro e w5a ⟨st5a,A5,n5,c5,rfl,hn5,hO5,hN5⟩;have HN5:=Lib.hid hn5;clear hn5;have hk5a:AH w5a zk seed (used+1+1):=inferInstance;have hs5a:HB w5a z9 94 (Je (AQ seed) (.func (.func 28) #[.pointer (some ⟨zk,0,none⟩)] #[]) 0).toArray :=inferInstance;have hb5a:HB w5a zr 84 (Bg sd p0 (.pointer (some ⟨zk,0,none⟩)) f g v [.slice B T.length d,xr,t0,t1,s0,s1,xg, .slice C cn cc]).toArray :=inferInstance;have hC5a:Hid (Au (FF zk zr) w w5a):=Lib.hid (hCw5z.out.trans (Aa (w0:=w5z) (w:=w5a)).chg (fun _ _ h=>h.elim));have hA5:Hid (Au Ab w5z w5a):=Lib.hid (Aa (w0:=w5z) (w:=w5a)).chg;have sz5a:w5z.heap.size≤w5a.heap.size:=(Aa (w0:=w5z) (w:=w5a)).chg.size;have hO5r:HR w5a A5 (bs _):=⟨hO5.out.rd⟩;go_wp2_with fail;have qa5:=OV hO5.out;have qb5:n5≤100000:=by rw[HN5.out];have h9:=HMl.out;unfold ZF VZ at h9;rw[←HM4.out] at h9;exact h9
  have qc5:=JD (zs:=z9) (zk:=zk) (pub:=AQ seed) (seed:=seed) (used:=(used+1+1)) (w:=w5a) HN5.out.symm qa5 qb5 (by omega) (by omega) hk9 (fun ad e=>by have:=hN5.out ad e;constructor<;>omega) LO (by omega) (fun ad e=>⟨by have:=hN5.out ad e;omega,hO5.out.lt e⟩);refine qc5.mono ?_;clear qc5;rintro e w5b ⟨v5,rfl,st5b,hk5b,hs5b,hE5⟩;have o51:=hE5.out.v.one.2;have hone5:(#[.slice A5 n5 c5,v5]:Array Value).all (·.oneCell')=true:=DW _ _ rfl o51;have szb5:=st5b.chg.size;go_wp2_with (first|(refine WO 33 (Xn _ _ _) ?_)|(refine BB 12 ?_;intro z12 wz12 _ _ _)|(refine Bt ?_;intro ws _ _));have hz12:w5b.heap.size≤z12:=Nat.le_of_eq (inferInstance:AW w5b z12).eq.symm;have hk5c:AH ws zk seed (used+1+1+1):=inferInstance;have hs5c:HB ws z9 94 (Je (AQ seed) (.func (.func 28) #[.pointer (some ⟨zk,0,none⟩)] #[]) 0).toArray :=inferInstance;have hb5c:HB ws zr 84 (Bg sd p0 (.pointer (some ⟨zk,0,none⟩)) f g v [.slice B T.length d,xr,t0,t1,s0,s1,xg, .slice C cn cc]).toArray :=inferInstance;have he5c:HB ws z12 58 #[.slice A5 n5 c5,v5]:=inferInstance;have hcN5:Au Ab w5b ws:=(Aa (w0:=w5b) (w:=ws)).chg;have hCws:Hid (Au (FF zk zr) w ws):=Lib.hid ((hC5a.out.trans st5b.chg (fun x hx h=>by
   rcases h with h|h
   ·exact .inl h
   omega)).trans hcN5 (fun _ _ h=>h.elim))
  have hX5:=Lib.hid (hE5.out.chg hcN5 (fun _ _ _ h=>h));have szc5:=hcN5.size;have ot5:As (FF zk z9) z12:=⟨fun h=>by rcases h with h|h<;>omega⟩;have hX3z_:=Lib.hid ((((hX3z.out.chg hA5.out (fun _ _ _ h=>h)).chg st5b.chg (fun y h1 h2 h=>by rcases h with h|h<;>omega)).chg hcN5 (fun _ _ _ h=>h)));have he3z_:HB ws z10 58 #[.slice A3 n3 c3,v3]:=inferInstance;clear hX3z he3z;have hX4z_:=Lib.hid ((((hX4z.out.chg hA5.out (fun _ _ _ h=>h)).chg st5b.chg (fun y h1 h2 h=>by rcases h with h|h<;>omega)).chg hcN5 (fun _ _ _ h=>h)));have he4z_:HB ws z11 58 #[.slice A4 n4 c4,v4]:=inferInstance;clear hX4z he4z;clear hk5a hs5a hb5a hk5b hs5b hcN5 hO5r hO5 hN5 qa5 qb5 HN5 hE5 st5a st5b;obtain⟨wy,hwy⟩: ∃x:World,x=ws:=⟨_,rfl⟩;subst hwy;have kbE:=Sg ⟨.slice A3 n3 c3,v3,rfl,o31⟩;have HP1:Hid ((Bg sd p0 (.pointer (some ⟨zk,0,none⟩)) f g v [.slice B T.length d,xr,t0,t1,s0,s1,xg, .slice C cn cc]).toArray.toList.take 70++(#[.slice A5 n5 c5,v5]:Array Value).toList ++(Bg sd p0 (.pointer (some ⟨zk,0,none⟩)) f g v [.slice B T.length d,xr,t0,t1,s0,s1,xg, .slice C cn cc]).toArray.toList.drop (70+2)=(Bg sd p0 (.pointer (some ⟨zk,0,none⟩)) f g v [.slice B T.length d,xr, .slice A5 n5 c5,v5,s0,s1,xg, .slice C cn cc]).toArray.toList):=Lib.hid (Xo sd p0 _ f g v _ 2 2 _);have HP2:Hid ((Bg sd p0 (.pointer (some ⟨zk,0,none⟩)) f g v [.slice B T.length d,xr, .slice A5 n5 c5,v5,s0,s1,xg, .slice C cn cc]).toArray.toList.take 72++(#[.slice A4 n4 c4,v4]:Array Value).toList ++(Bg sd p0 (.pointer (some ⟨zk,0,none⟩)) f g v [.slice B T.length d,xr, .slice A5 n5 c5,v5,s0,s1,xg, .slice C cn cc]).toArray.toList.drop (72+2)=(Bg sd p0 (.pointer (some ⟨zk,0,none⟩)) f g v [.slice B T.length d,xr, .slice A5 n5 c5,v5, .slice A4 n4 c4,v4,xg, .slice C cn cc]).toArray.toList):=Lib.hid (Xo sd p0 _ f g v _ 4 2 _);have HZ1:Hid (70+2≤(Bg sd p0 (.pointer (some ⟨zk,0,none⟩)) f g v [.slice B T.length d,xr,t0,t1,s0,s1,xg, .slice C cn cc]).toArray.size):=Lib.hid (by rw[Ni _ _ _ _ _ _ _ rfl];decide);have HZ2:Hid (72+2≤(Bg sd p0 (.pointer (some ⟨zk,0,none⟩)) f g v [.slice B T.length d,xr, .slice A5 n5 c5,v5,s0,s1,xg, .slice C cn cc]).toArray.size):=Lib.hid (by rw[Ni _ _ _ _ _ _ _ rfl];decide);have HZ3:Hid (74<(Bg sd p0 (.pointer (some ⟨zk,0,none⟩)) f g v [.slice B T.length d,xr, .slice A5 n5 c5,v5, .slice A4 n4 c4,v4,xg, .slice C cn cc]).toArray.size):=Lib.hid (by rw[Ni _ _ _ _ _ _ _ rfl];decide);have or10:As (only zr) z10:=⟨fun e=>by have e':z10=zr:=e;omega⟩;have or11:As (only zr) z11:=⟨fun e=>by have e':z11=zr:=e;omega⟩;have or12:As (only zr) z12:=⟨fun e=>by have e':z12=zr:=e;omega⟩;have ork:As (only zr) zk:=⟨hne⟩;refine Ah ((only zr)) (by kernel_rfl) (fun wd _ _=> ?_);refine YS 0 ?_;refine YS 1 ?_;refine YS 2 ?_;refine KW 3 ?_;refine KW 4 ?_;refine KW 5 ?_;refine YS 7 ?_;refine YS 8 ?_;refine YS 9 ?_;refine wpAnyH_ready (rs:=[6,10]) (by kernel_rfl) (by simp) (AllReadyH.cons rfl (fun K_ hK_=> ?_) (AllReadyH.cons rfl (fun K_ hK_=> ?_) AllReadyH.nil))
  focus
   refine Yq ?_
   (refine BM 101 (kbE _) ?_;intro ze wb _ _ _)
   refine Yn hK_ ?_;clear hK_ K_;refine Yh 10 fun K_ hK_=> ?_
   ((with_reducible apply(Ce (k:=70) (n:=2)));exact rfl;exact rfl;infer_instance;infer_instance;exact rfl;(decide);exact HZ1.out;exact hone5;exact HP1.out;intro wA stA hbA)
   refine Ym hK_ ?_;clear hK_ K_;refine YS 11 ?_;refine YS 12 ?_;refine YS 13 ?_;refine Yh 14 fun K_ hK_=> ?_
   ((with_reducible apply(Ce (k:=72) (n:=2)));exact rfl;exact rfl;infer_instance;infer_instance;exact rfl;(decide);exact HZ2.out;exact hone4;exact HP2.out;intro wB stB hbB)
   refine Ym hK_ ?_;clear hK_ K_;refine YS 15 ?_;refine YS 16 ?_;refine YS 17 ?_;refine Yh 18 fun K_ hK_=> ?_
   (refine WSj 74 HZ3.out ?_;intro wC stC hbC)
   refine Ym hK_ ?_;clear hK_ K_;refine Yd ?_
  rotate_left 1
  focus
   refine Yq ?_
   ((with_reducible apply(Ce (k:=70) (n:=2)));exact rfl;exact rfl;infer_instance;infer_instance;exact rfl;(decide);exact HZ1.out;exact hone5;exact HP1.out;intro wA stA hbA)
   refine Ym hK_ ?_;clear hK_ K_;refine YS 11 ?_;refine YS 12 ?_;refine YS 13 ?_;refine wpAnyH_ready (rs:=[6,14]) (by kernel_rfl) (by simp) (AllReadyH.cons rfl (fun K_ hK_=> ?_) (AllReadyH.cons rfl (fun K_ hK_=> ?_) AllReadyH.nil))
   focus
    refine Yq ?_
    (refine BM 101 (kbE _) ?_;intro ze wb _ _ _)
    refine Yn hK_ ?_;clear hK_ K_;refine Yh 14 fun K_ hK_=> ?_
    ((with_reducible apply(Ce (k:=72) (n:=2)));exact rfl;exact rfl;infer_instance;infer_instance;exact rfl;(decide);exact HZ2.out;exact hone4;exact HP2.out;intro wB stB hbB)
    refine Ym hK_ ?_;clear hK_ K_;refine YS 15 ?_;refine YS 16 ?_;refine YS 17 ?_;refine Yh 18 fun K_ hK_=> ?_
    (refine WSj 74 HZ3.out ?_;intro wC stC hbC)
    refine Ym hK_ ?_;clear hK_ K_;refine Yd ?_
   rotate_left 1
   focus
    refine Yq ?_
    ((with_reducible apply(Ce (k:=72) (n:=2)));exact rfl;exact rfl;infer_instance;infer_instance;exact rfl;(decide);exact HZ2.out;exact hone4;exact HP2.out;intro wB stB hbB)
    refine Ym hK_ ?_;clear hK_ K_;refine Yh 6 fun K_ hK_=> ?_
    (refine BM 101 (kbE _) ?_;intro ze wb _ _ _)
    refine Yn hK_ ?_;clear hK_ K_;refine YS 15 ?_;refine YS 16 ?_;refine YS 17 ?_;refine Yh 18 fun K_ hK_=> ?_
    (refine WSj 74 HZ3.out ?_;intro wC stC hbC)
    refine Ym hK_ ?_;clear hK_ K_;refine Yd ?_
   rotate_left 1
  rotate_left 2
  all_goals
   have hzeb:wy.heap.size≤ze:=by
    first
     |exact Nat.le_trans (inferInstance:Ay wy wd).out (Nat.le_of_eq (inferInstance:AW wd ze).eq.symm)
     |exact Nat.le_trans (inferInstance:Ay wy wA).out (Nat.le_of_eq (inferInstance:AW wA ze).eq.symm)
     |exact Nat.le_trans (inferInstance:Ay wy wB).out (Nat.le_of_eq (inferInstance:AW wB ze).eq.symm)
   have oze:As (only zr) ze:=⟨fun e=>by have e':ze=zr:=e;omega⟩;have hb1:HB wC zr 84 (Bg sd p0 (.pointer (some ⟨zk,0,none⟩)) f g v [.slice B T.length d,xr, .slice A5 n5 c5,v5, .slice A4 n4 c4,v4, .slice (some ⟨ze,0,none⟩) 1 1, .slice C cn cc]).toArray :=HB.row_eqS hbC (Sj sd p0 _ f g v _ 6 _);have hbE:HB wC ze 58 (cellsOf [(⟨.slice A3 n3 c3,v3,rfl,o31⟩:JY)]).toArray :=inferInstance;have hkC:AH wC zk seed (used+1+1+1):=inferInstance;have hcC:Au (only zr) wy wC:=(inferInstance:Ch (only zr) wy wC).out;have hY3:=Lib.hid (hX3z_.out.chg hcC (fun y h1 h2 h=>by have h':y=zr:=h;omega));have hY4:=Lib.hid (hX4z_.out.chg hcC (fun y h1 h2 h=>by have h':y=zr:=h;omega));have hY5:=Lib.hid (hX5.out.chg hcC (fun y h1 h2 h=>by have h':y=zr:=h;omega));have hCC:Hid (Au (FF zk zr) w wC):=Lib.hid (hCws.out.trans hcC (fun _ _ h=> .inr h));have HZ67:Hid (67<(Bg sd p0 (.pointer (some ⟨zk,0,none⟩)) f g v [.slice B T.length d,xr, .slice A5 n5 c5,v5, .slice A4 n4 c4,v4, .slice (some ⟨ze,0,none⟩) 1 1, .slice C cn cc]).toArray.size):=Lib.hid (by rw[Ni _ _ _ _ _ _ _ rfl];decide);have HZ75:Hid (75<(Bg sd p0 (.pointer (some ⟨zk,0,none⟩)) f g (v+1) [.slice B T.length d,xr, .slice A5 n5 c5,v5, .slice A4 n4 c4,v4, .slice (some ⟨ze,0,none⟩) 1 1, .slice C cn cc]).toArray.size):=Lib.hid (by rw[Ni _ _ _ _ _ _ _ rfl];decide);clear hbC hX3z_ hX4z_ hX5 hcC;go_wp2_with (first|(refine WSk 67 hb1 HZ67.out ?_;intro wD stD hbD0;have hbD:HB wD zr 84 (Bg sd p0 (.pointer (some ⟨zk,0,none⟩)) f g (v+1) [.slice B T.length d,xr, .slice A5 n5 c5,v5, .slice A4 n4 c4,v4, .slice (some ⟨ze,0,none⟩) 1 1, .slice C cn cc]).toArray :=HB.row_eqS hbD0 (Abt _ _ _ _ _ _ _ _);clear hbD0));have hc75:Eg (Bg sd p0 (.pointer (some ⟨zk,0,none⟩)) f g (v+1) [.slice B T.length d,xr, .slice A5 n5 c5,v5, .slice A4 n4 c4,v4, .slice (some ⟨ze,0,none⟩) 1 1, .slice C cn cc]).toArray.toList 75=some (.slice C cn cc):=by
    rw[←Bp];exact Jz sd p0 _ f g (v+1) _ 7
   have hcw9:Hid (Au (FF zk zr) w wD):=Lib.hid (hCC.out.trans (inferInstance:Ag (only zr) wC wD).chg (fun _ _ h=> .inr h));have hoB:HO wD 44 37 B T.length d (cellsOf T):=⟨HB0.out.chg hcw9.out (fun ad e h=>by rcases h with h|h;exact(hBk ad e).1 h;exact(hBk ad e).2 h)⟩;have hoC:HO wD 44 37 C cn cc (cellsOf D):=⟨HC0.out.chg hcw9.out (fun ad e h=>by rcases h with h|h;exact(hCk ad e).1 h;exact(hCk ad e).2 h)⟩;have hrTB:HR wD B (cellsOf T):=⟨hoB.out.rd⟩;have hDl:D.length=cn:=hDn;have hszw:=hcw9.out.size;have hCl: ∀ad,C=some ad→ad.block<w.heap.size:=fun ad e=>HC0.out.lt e
   have hBl: ∀ad,B=some ad→ad.block<w.heap.size:=fun ad e=>HB0.out.lt e
   have oCr:As (An C) zr:=⟨fun⟨ad,e,h⟩=>(hCk ad e).2 h⟩;have oCB:BW (An C) B:=⟨fun ad e ⟨bd,e2,h⟩=>hBC ad bd e e2 h.symm⟩;have oCE:As (An C) ze:=⟨fun⟨ad,e,h⟩=>by have:=hCl ad e;omega⟩;have oCk:As (An C) zk:=⟨fun⟨ad,e,h⟩=>(hCk ad e).1 h⟩;have orC:BW (only zr) C:=⟨fun ad e h=>(hCk ad e).2 h⟩;have orB:BW (only zr) B:=⟨fun ad e h=>(hBk ad e).2 h⟩;have hbDD:HB wD zr 84 (Bg sd p0 (.pointer (some ⟨zk,0,none⟩)) f g (v+1) [.slice B T.length d,xr, .slice A5 n5 c5,v5, .slice A4 n4 c4,v4, .slice (some ⟨ze,0,none⟩) 1 1, .slice C cn cc]).toArray :=hbD;have hbED:HB wD ze 58 (cellsOf [(⟨.slice A3 n3 c3,v3,rfl,o31⟩:JY)]).toArray :=inferInstance;have hkD:AH wD zk seed (used+1+1+1):=inferInstance;have hcD:Au (only zr) wC wD:=(inferInstance:Ch (only zr) wC wD).out;have hW3:=Lib.hid (hY3.out.chg hcD (fun y h1 h2 h=>by have h':y=zr:=h;omega));have hW4:=Lib.hid (hY4.out.chg hcD (fun y h1 h2 h=>by have h':y=zr:=h;omega));have hW5:=Lib.hid (hY5.out.chg hcD (fun y h1 h2 h=>by have h':y=zr:=h;omega));have hcyD:Au (only zr) wy wD:=(inferInstance:Ch (only zr) wy wD).out;have HZD:Hid (wy.heap.size≤ze∧ze<wD.heap.size∧LO≤wy.heap.size∧wy.heap.size≤wD.heap.size):=Lib.hid ⟨hzeb,hbED.out.lt,by omega,hcyD.size⟩;have hwLO:w.heap.size≤LO:=by rw[hLO];exact hCwx.out.size
   clear hY3 hY4 hY5 hcD hcyD hbE hkC hb1 hbD;refine Ah ((LH zr C)) (by kernel_rfl) (fun wd _ _=> ?_);refine YS 0 ?_;refine YS 1 ?_;refine YS 2 ?_;refine YS 3 ?_;refine YS 5 ?_;refine YS 6 ?_;refine YS 7 ?_;refine wpAnyH_ready (rs:=[4,8]) (by kernel_rfl) (by simp) (AllReadyH.cons rfl (fun K_ hK_=> ?_) (AllReadyH.cons rfl (fun K_ hK_=> ?_) AllReadyH.nil))
   focus
    refine Yq ?_
    (refine WO 75 hc75 ?_)
    refine Yn hK_ ?_;clear hK_ K_;refine Yh 8 fun K_ hK_=> ?_
    (refine WO 68 (GJ _ _ _ _ _ _ _ _) ?_)
    refine Yn hK_ ?_;clear hK_ K_;refine Yh 9 fun K_ hK_=> ?_
    ((with_reducible apply(Bb (α:=Ad)));exact rfl;exact rfl;infer_instance;infer_instance;infer_instance;exact rfl;exact rfl;omega;(decide);(decide);intro C2 cc2 wN stN hoN hGN hcapN)
    refine Yn hK_ ?_;clear hK_ K_;refine YS 10 ?_;refine YS 11 ?_;refine Yh 12 fun K_ hK_=> ?_
    (refine WSj 75 HZ75.out ?_;intro wE stE hbE5)
    refine Ym hK_ ?_;clear hK_ K_;refine Yd ?_
   rotate_left 1
   focus
    refine Yq ?_
    (refine WO 68 (GJ _ _ _ _ _ _ _ _) ?_)
    refine Yn hK_ ?_;clear hK_ K_;refine Yh 4 fun K_ hK_=> ?_
    (refine WO 75 hc75 ?_)
    refine Yn hK_ ?_;clear hK_ K_;refine Yh 9 fun K_ hK_=> ?_
    ((with_reducible apply(Bb (α:=Ad)));exact rfl;exact rfl;infer_instance;infer_instance;infer_instance;exact rfl;exact rfl;omega;(decide);(decide);intro C2 cc2 wN stN hoN hGN hcapN)
    refine Yn hK_ ?_;clear hK_ K_;refine YS 10 ?_;refine YS 11 ?_;refine Yh 12 fun K_ hK_=> ?_
    (refine WSj 75 HZ75.out ?_;intro wE stE hbE5)
    refine Ym hK_ ?_;clear hK_ K_;refine Yd ?_
   rotate_left 1
   all_goals
    go_wp2_with fail;go_ret;have hwdD:wD.heap.size≤wd.heap.size:=(inferInstance:Ay wD wd).out;have hzrD:zr<wD.heap.size:=hbDD.out.lt;have hC2n: ∀ad,C2=some ad→C2=C∨wD.heap.size≤ad.block:=fun ad e=>by
     rcases hGN.out with h9|h9
     ·exact .inl h9
     rw[h9] at e;injection e with e
     subst e;exact .inr hwdD
    have oC2:BW (only zr) C2:=⟨fun ad e h=>by
     have h':ad.block=zr:=h;rcases hC2n ad e with h9|h9
     ·rw[h9] at e;exact(hCk ad e).2 h'
     omega⟩
    have hbF:HB wE zr 84 (Bg sd p0 (.pointer (some ⟨zk,0,none⟩)) f g (v+1) [.slice B T.length d,xr, .slice A5 n5 c5,v5, .slice A4 n4 c4,v4, .slice (some ⟨ze,0,none⟩) 1 1, .slice C2 (cn+T.length) cc2]).toArray :=HB.row_eqS hbE5 (Sj sd p0 _ f g (v+1) _ 7 _);have hbG:HB wE ze 58 (cellsOf [(⟨.slice A3 n3 c3,v3,rfl,o31⟩:JY)]).toArray :=inferInstance;have hkF0:AH wE zk seed (used+1+1+1):=inferInstance;have hkF:AH wE zk seed (used+3):=by rwa[show used+1+1+1=used+3 by omega] at hkF0
    have hoBE:HO wE 44 37 B T.length d (cellsOf T):=inferInstance;have hoCE:HO wE 44 37 C2 (cn+T.length) cc2 (cellsOf (D++T)):=inferInstance;have hcE:Au (LH zr C) wD wE:=(inferInstance:Ch (LH zr C) wD wE).out;have hCF:Au (Xd zk zr C) w wE:=(hcw9.out.mono (T:=Xd zk zr C) (fun _ _ h=>by rcases h with h|h;exact .inl h;exact .inr (.inl h))).trans hcE (fun _ _ h=>by rcases h with h|h;exact .inr (.inl h);exact .inr (.inr h));have hfar: ∀y,LO≤y→∀hi:Nat,y<hi→¬LH zr C y:=fun y h1 _ _ h=>by
     rcases h with h|⟨ad,e,h⟩
     ·omega
     have:=hCl ad e;omega
    have hszE:=hcE.size;have hG3:=(hW3.out.chg hcE (fun y h1 h2=>hfar y h1 _ h2)).wide (hi2:=wD.heap.size) (by have:=HZD.out;omega);have hG4:=(hW4.out.chg hcE (fun y h1 h2=>hfar y h1 _ h2)).wide (hi2:=wD.heap.size) (by have:=HZD.out;omega);have hG5:=(hW5.out.chg hcE (fun y h1 h2=>hfar y h1 _ h2)).wide (hi2:=wD.heap.size) (by have:=HZD.out;omega);have e4:=HM4.out;subst e4;exact⟨rfl,_,_,_,_,ze,⟨.slice A3 n3 c3,v3,rfl,o31⟩,C2,cc2,LO,wD.heap.size,⟨hCF⟩,hkF,hbF,hoBE,hoCE,Lib.hid ⟨hC2n,hwLO,hszE,by have:=HZD.out;omega,HZD.out.2.1⟩,Lib.hid ⟨hG5,hG4,hG3⟩,HB.cells hbG⟩
end Go.Proofs.YtjjhceeookpieaaGreat
