/- RlG -/
import Derived.Test.YtjjhceeookpieaaGreatUhZ
import Derived.Test.YtjjhceeookpieaaGreatUhRpC
import Derived.Test.YtjjhceeookpieaaGreatUhRlF
set_option maxRecDepth 100000
set_option maxHeartbeats 6400000
open Go Go.RowKit
namespace Go.Proofs.YtjjhceeookpieaaGreat
def thr (a b c:Nat):Nat→Prop:=fun x=>x=a∨x=b∨x=c
instance KE.thrA (w:World) (a b c:Nat):KE w (FF a b) (thr a b c):=⟨fun _ _ h=>by
 rcases h with h|h
 ·exact .inl h
 exact .inr (.inl h)⟩
instance KE.thrB (w:World) (a b c:Nat):KE w (only c) (thr a b c):=⟨fun _ _ h=> .inr (.inr h)⟩
theorem Ai0 (sd:Ak) (p0 p1:Value) (f:Ak) (g v:Int) (tl:List Value):Eg (Bg sd p0 p1 f g v tl).toArray.toList 66=some (.int .i64 g):=by
 rw[←Bp];show(Bg sd p0 p1 f g v tl)[66]? =_;have e:Bg sd p0 p1 f g v tl=(bs sd.l++[p0,p1]++bs f.l)++(Value.int .i64 g:: .int .i64 v::tl):=by simp[Bg]
 have hl:(bs sd.l++[p0,p1]++bs f.l).length =66:=by simp[Am]
 rw[e,List.getElem?_append_right (by rw[hl];exact Nat.le_refl _),hl];rfl
theorem Ai1 (sd:Ak) (p0 p1:Value) (f:Ak) (g v:Int) (tl:List Value):((Bg sd p0 p1 f g v tl).toArray.toList.drop 0).take 32=bs sd.l:=by
 show(Bg sd p0 p1 f g v tl).take 32=_;rw[Bg,List.take_left' (Kd sd)]
theorem Aaz (sd:Ak) (p0 p1 q1:Value) (f:Ak) (g v:Int) (tl:List Value):(Bg sd p0 p1 f g v tl).toArray.setIfInBounds 33 q1=(Bg sd p0 q1 f g v tl).toArray :=by
 rw[sA]
 congr 1
 have e: ∀x,Bg sd p0 x f g v tl=(bs sd.l++[p0])++(x::(bs f.l++(.int .i64 g:: .int .i64 v::tl))):=fun x=>by simp[Bg]
 have hl:(bs sd.l++[p0]).length =33:=by simp[Am]
 rw[e,e,List.set_append_right _ _ (by rw[hl];exact Nat.le_refl _),hl];rfl
theorem Ab0 (sd:Ak) (p0 p1:Value) (f:Ak) (g g2 v:Int) (tl:List Value):(Bg sd p0 p1 f g v tl).toArray.setIfInBounds 66 (.int .i64 g2)=(Bg sd p0 p1 f g2 v tl).toArray :=by
 rw[sA]
 congr 1
 have e: ∀x,Bg sd p0 p1 f x v tl=(bs sd.l++[p0,p1]++bs f.l)++(Value.int .i64 x:: .int .i64 v::tl):=fun x=>by simp[Bg]
 have hl:(bs sd.l++[p0,p1]++bs f.l).length =66:=by simp[Am]
 rw[e,e,List.set_append_right _ _ (by rw[hl];exact Nat.le_refl _),hl];rfl
theorem Mu.offT {W w7:World} {A:Option Addr} {LO z6:Nat} {m:List UInt8} {P:List Pu} {v0 v1:Value} (h:Mu (slO A W w7) w7 m P v0 v1) (hAz: ∀ad,A=some ad→ad.block≠z6) (hAlo: ∀ad,A=some ad→LO≤ad.block∧ad.block<w7.heap.size) (hlo:LO≤W.heap.size) (hz:z6<W.heap.size∨w7.heap.size≤z6):Mu (fun y=>LO≤y∧y<w7.heap.size∧y≠z6) w7 m P v0 v1:=
 h.mono (fun y hy=>by
  rcases hy with⟨ad,e,rfl⟩|hy
  ·exact⟨(hAlo ad e).1,(hAlo ad e).2,hAz ad e⟩
  exact⟨by omega,hy.2,by omega⟩)
def EU (sd:Ak) (g:Int):List UInt8:=Dg g 1073741824 (Vf (AQ (Ao sd 0)) (AQ (Ao sd g)))
def RtQ (sd f:Ak) (g v:Int) (bt:Value) (X:Option Addr) (xn:Nat) (t0 t1 s0 s1 xg lg:Value) (xl:List JY) (zr z0:Nat) (used:Int) (w w':World):Prop:=
 ∃(zk:Nat) (X':Option Addr) (xc':Nat) (ev:JY) (lo hi:Nat),Ag (Xd z0 zr X) w w'∧AH w' z0 (Ao sd 0) (used+1)∧AH w' zk (Ao sd (g+1)) 0∧
     HB w' zr 84 (Bg sd (.pointer (some ⟨z0,0,none⟩)) (.pointer (some ⟨zk,0,none⟩)) f (g+1) v [bt, .slice X' (xn+1) xc',t0,t1,s0,s1,xg,lg]).toArray ∧HO w' 58 2 X' (xn+1) xc' (cellsOf (xl++[ev]))∧
     Hid ((∀ad,X'=some ad→X'=X∨hi≤ad.block)∧w.heap.size≤zk∧zk<lo∧lo≤hi∧hi≤w'.heap.size)∧Hid (NJ w' lo hi (EU sd (g+1)) (Kf (AQ (Ao sd 0)) (Ao sd 0) used (EU sd (g+1))) ev.v0 ev.v1)
theorem Aeb (sd:Ak) (g:Int):(EU sd g).length ≤100000:=by
 have a1:=Az [1];have a2:=Az [g,1073741824];have a3:(Fc (Vf (AQ (Ao sd 0)) (AQ (Ao sd g)))).length ≤1000:=by
  have k0:=LA [AQ (Ao sd 0)] 1;have k1:=LA [AQ (Ao sd g)] 1;have e:Fc (Vf (AQ (Ao sd 0)) (AQ (Ao sd g)))=Du [AQ (Ao sd 0)] 1++(Du [AQ (Ao sd g)] 1++(Du [AQ (Ao sd g)] 1++(Du [AQ (Ao sd g)] 1++[]))):=rfl;rw[e];simp only[List.length_append,List.length_cons,List.length_nil] at*;omega
 unfold EU Dg;simp only[List.length_append,List.length_cons,List.length_nil] at*;omega
theorem RX {sd f:Ak} {p1:Value} {g v:Int} {bt t0 t1 s0 s1 xg lg:Value} {zr z0:Nat} {used:Int} {X:Option Addr} {xn xc:Nat} {xl:List JY} {w:World}
    [hb:HB w zr 84 (Bg sd (.pointer (some ⟨z0,0,none⟩)) p1 f g v [bt, .slice X xn xc,t0,t1,s0,s1,xg,lg]).toArray] [hk:AH w z0 (Ao sd 0) used] [hx:HO w 58 2 X xn xc (cellsOf xl)]
    (hxl:xl.length=xn) (hxn:xn≤1000000) (hne:z0≠zr) (hX: ∀ad,X=some ad→ad.block≠z0∧ad.block≠zr) (h0:0≤used) (h16:used<16) (hg0:1≤g) (hg:g<200):
    Calls Tryz.prog 10 #[.pointer (some ⟨zr,0,none⟩)] w fun e w'=>e= .returned (.int .i64 0)∧RtQ sd f g v bt X xn t0 t1 s0 s1 xg lg xl zr z0 used w w':=by
 have HX0:=Lib.hid hx.out;have HXL:=Lib.hid hxl;have hI1: ¬16≤used:=by omega
 have hI2: ¬200≤g:=by omega
 have hver:Hid (BE (g+1)=true):=Lib.hid (by unfold BE;rw[decide_eq_true (by omega),decide_eq_true (by omega)];rfl);have HLEN:=Lib.hid (Aeb sd (g+1));clear hx hxl;go_enter Tryz.func10,Tryz.ntmps10;go_wp2_with (first|(refine SS 32 hb (QZ _ _ _ _ _ _ _) ?_));refine IA.mono ?_;rintro e w1 ⟨rfl,st1⟩;have hb1:HB w1 zr 84 (Bg sd (.pointer (some ⟨z0,0,none⟩)) p1 f g v [bt, .slice X xn xc,t0,t1,s0,s1,xg,lg]).toArray :=inferInstance;have hk1:AH w1 z0 (Ao sd 0) used:=inferInstance;go_wp2_with (first|(refine SS 66 hb1 (Ai0 _ _ _ _ _ _ _) ?_)|((with_reducible apply(Eh (k:=0)));exact rfl;exact hb1;infer_instance;exact Ai1 _ _ _ _ _ _ _));refine(JA sd (g+1) _).mono ?_;rintro e w2 ⟨zk,rfl,st2,hzk,hk2⟩;have hb2:HB w2 zr 84 (Bg sd (.pointer (some ⟨z0,0,none⟩)) p1 f g v [bt, .slice X xn xc,t0,t1,s0,s1,xg,lg]).toArray :=inferInstance;have hk02:AH w2 z0 (Ao sd 0) used:=inferInstance;have hCw2:Hid (Au Ab w w2):=Lib.hid (st1.chg.trans st2.chg (fun _ _ h=>h.elim));have hzkw:=hzk.out;have hzrl:=hb.out.lt;have hz0l:=hk.lt;have hs1:=st1.chg.size;have hs2:=st2.chg.size;have hzkl:=hk2.lt;have hslz:=Gv (AQ (Ao sd 0)) (.func (.func 28) #[.pointer (some ⟨z0,0,none⟩)] #[]) 0;have o0r:As (only z0) zr:=⟨fun e=>hne (show zr=z0 from e).symm⟩;have o0k:As (only z0) zk:=⟨fun e=>by have e':zk=z0:=e;omega⟩;clear hb hk hb1 hk1 hzk;go_wp2_with fail;refine Ah ((only z0)) (by kernel_rfl) (fun wd _ _=> ?_);refine YS 0 ?_;refine YS 1 ?_;refine YS 2 ?_;refine IS 3 32 (QZ _ _ _ _ _ _ _) ?_;refine YS 5 ?_;refine YS 6 ?_;refine YS 7 ?_;refine IS 8 32 (QZ _ _ _ _ _ _ _) ?_;refine YS 9 ?_;refine wpAnyH_ready (rs:=[4,11]) (by kernel_rfl) (by simp) (AllReadyH.cons rfl (fun K_ hK_=> ?_) (AllReadyH.cons rfl (fun K_ hK_=> ?_) AllReadyH.nil))
 focus
  go_simp;refine(Bx (zk:=z0) (seed:=Ao sd 0) (used:=used)).mono ?_;rintro e w3 ⟨rfl,st3,hk3⟩;refine Yz hK_ ?_;clear hK_ K_;refine YB 10 (JZ _ _) ?_;refine Yh 11 fun K_ hK_=> ?_
  (refine BB 5 ?_;intro z5 wz5 _ _ _)
  refine Yn hK_ ?_;clear hK_ K_;refine Yh 12 fun K_ hK_=> ?_
  (refine NN hslz (Gv _ _ _) (Sl _ _ _) ?_;intro wx stx hsx)
  refine Ym hK_ ?_;clear hK_ K_;refine Yd ?_
 rotate_left 1
 focus
  refine Yq ?_
  (refine BB 5 ?_;intro z5 wz5 _ _ _)
  refine Yn hK_ ?_;clear hK_ K_;refine Yg 4 fun K_ hK_=> ?_
  go_simp;refine(Bx (zk:=z0) (seed:=Ao sd 0) (used:=used)).mono ?_;rintro e w3 ⟨rfl,st3,hk3⟩;refine Yz hK_ ?_;clear hK_ K_;refine YB 10 (JZ _ _) ?_;refine Yh 12 fun K_ hK_=> ?_
  (refine NN hslz (Gv _ _ _) (Sl _ _ _) ?_;intro wx stx hsx)
  refine Ym hK_ ?_;clear hK_ K_;refine Yd ?_
 rotate_left 1
 all_goals
  have hz5:w2.heap.size≤z5:=by
   first
    |exact Nat.le_trans (inferInstance:Ay w2 w3).out (Nat.le_of_eq (inferInstance:AW w3 z5).eq.symm)
    |exact Nat.le_trans (inferInstance:Ay w2 wd).out (Nat.le_of_eq (inferInstance:AW wd z5).eq.symm)
  have h05:z0≠z5:=by omega
  have hr5:zr≠z5:=by omega
  have hk5:zk≠z5:=by omega
  have o50:As (only z5) z0:=⟨h05⟩;have o05:As (only z0) z5:=⟨fun e=>h05 (show z5=z0 from e).symm⟩;have o5r:As (only z5) zr:=⟨hr5⟩;have o5k:As (only z5) zk:=⟨hk5⟩;have ok0:As (only zk) z0:=⟨fun e=>by have e':z0=zk:=e;omega⟩;have ok5:As (only zk) z5:=⟨fun e=>hk5 (show z5=zk from e).symm⟩;have okr:As (only zk) zr:=⟨fun e=>by have e':zr=zk:=e;omega⟩;have ot5k:As (FF z0 z5) zk:=⟨fun h=>by rcases h with h|h;exact o0k.out h;exact hk5 h⟩;have ot5r:As (FF z0 z5) zr:=⟨fun h=>by rcases h with h|h;exact hne h.symm;exact hr5 h⟩;have hkx:AH wx z0 (Ao sd 0) used:=inferInstance;have hkkx:AH wx zk (Ao sd (g+1)) 0:=inferInstance;have hbx:HB wx zr 84 (Bg sd (.pointer (some ⟨z0,0,none⟩)) p1 f g v [bt, .slice X xn xc,t0,t1,s0,s1,xg,lg]).toArray :=inferInstance;have hcx1:Au (only z0) w2 wx:=(inferInstance:Ch (only z0) w2 wx).out;have hCwx:Hid (Au (FF z0 zr) w wx):=Lib.hid ((hCw2.out.mono (T:=FF z0 zr) (fun _ _ h=>h.elim)).trans hcx1 (fun _ _ h=> .inl h));obtain⟨LO,hLO⟩: ∃n,n=wx.heap.size:=⟨_,rfl⟩;have hz5l:=hsx.out.lt;have hkl9:zk<LO:=by have:=hkkx.lt;omega
  have hwLO:w.heap.size≤LO:=by rw[hLO];exact hCwx.out.size
  have hz0L:z0<LO:=by omega
  have hz5L:z5<LO:=by omega
  have hzrL:zr<LO:=by omega
  have HWZ:Hid (w.heap.size≤zk):=Lib.hid (by omega);clear hb2 hk2 hk02 st2 stx hk3 st3 hcx1 st1;go_wp2_with fail;refine Ah ((thr z0 z5 zk)) (by kernel_rfl) (fun wd _ _=> ?_);refine YS 0 ?_;refine YS 1 ?_;refine YS 3 ?_;refine wpAnyH_ready (rs:=[2,4,10]) (by kernel_rfl) (by simp) (AllReadyH.cons rfl (fun K_ hK_=> ?_) (AllReadyH.cons rfl (fun K_ hK_=> ?_) (AllReadyH.cons rfl (fun K_ hK_=> ?_) AllReadyH.nil)))
  focus
   refine Yq ?_
   ((with_reducible apply(Eh (k:=0)));exact rfl;infer_instance;infer_instance;exact Mt _ _ _)
   refine Yn hK_ ?_;clear hK_ K_;refine wpAnyH_ready (rs:=[4,10]) (by kernel_rfl) (by simp) (AllReadyH.cons rfl (fun K_ hK_=> ?_) (AllReadyH.cons rfl (fun K_ hK_=> ?_) AllReadyH.nil))
   focus
    go_simp;refine(Bx (zk:=zk) (seed:=Ao sd (g+1)) (used:=0)).mono ?_;rintro e w4 ⟨rfl,st4,hk4⟩;refine Yz hK_ ?_;clear hK_ K_;refine wpAnyH_ready (rs:=[5,10]) (by kernel_rfl) (by simp) (AllReadyH.cons rfl (fun K_ hK_=> ?_) (AllReadyH.cons rfl (fun K_ hK_=> ?_) AllReadyH.nil))
    focus
     go_simp;refine(CW (g+1) (AQ (Ao sd 0)) (AQ (Ao sd (g+1))) _).mono ?_;rintro e w5 ⟨K,rfl,hK,st5,hKM⟩;have HOK:Hid (Dc (g+1) 1073741824 K=true):=Lib.hid (by rw[←Fb,hKM.out.2];exact FU _ _ _ hver.out);have HKE:Hid (Ae [1]++(Ae [g+1,1073741824]++CO K)=EU sd (g+1)):=Lib.hid (by rw[←Fm,hKM.out.2];rfl);refine Yz hK_ ?_;clear hK_ K_;refine wpAnyH_ready (rs:=[6,10]) (by kernel_rfl) (by simp) (AllReadyH.cons rfl (fun K_ hK_=> ?_) (AllReadyH.cons rfl (fun K_ hK_=> ?_) AllReadyH.nil))
     focus
      go_simp;refine(Br (g+1) 1073741824 K hK (fun k hk=>BN.chg (hKM.out.1 k hk) (Aa (w0:=w5)).chg (fun _ _ h=>h))).mono ?_;unfold AR;rw[HOK.out,HKE.out];rintro e w6 ⟨st6,A,n,c,rfl,hn,hO,hN⟩;have HN:=Lib.hid hn;clear hn;have hA6: ∀ad,A=some ad→LO≤ad.block:=fun ad e=>Nat.le_trans (by rw[hLO];exact(inferInstance:Ay wx _).out) (hN.out ad e)
      (try have hzA: ∀ad,A=some ad→ad.block≠z6:=(fun ad e=>Nat.ne_of_gt (Nat.lt_of_lt_of_le (Nat.lt_of_lt_of_le h6.out.lt (Ay.out (w0:=wz6))) (hN.out ad e))))
      have hrA:HR w6 A (bs (EU sd (g+1))):=⟨hO.out.rd⟩;refine Yz hK_ ?_;clear hK_ K_;refine YS 7 ?_;refine YS 8 ?_;refine wpAnyH_ready (rs:=[9,10]) (by kernel_rfl) (by simp) (AllReadyH.cons rfl (fun K_ hK_=> ?_) (AllReadyH.cons rfl (fun K_ hK_=> ?_) AllReadyH.nil))
      focus
       go_simp;refine Calls.mono (BT (zs:=z5) (zk:=z0) (pub:=AQ (Ao sd 0)) (seed:=Ao sd 0) (used:=used) (m:=EU sd (g+1)) HN.out.symm (CN hO.out) (by rw[HN.out];exact HLEN.out) h0 h16 h05 (fun ad e=>by have:=hA6 ad e;constructor<;>omega)) ?_;rintro e w7 ⟨v7,rfl,st7,hk7,hs7,hE7⟩;have hone7:(#[.slice A n c,v7]:Array Value).all (·.oneCell')=true:=DW _ _ rfl hE7.out.v.one.2;have hA7: ∀ad,A=some ad→ad.block<w7.heap.size:=fun ad e=>Nat.lt_of_lt_of_le (hO.out.lt e) (inferInstance:Ay w6 w7).out
       (try have hE8:=Lib.hid (hE7.out.offT (LO:=LO) hzA (fun ad e=>⟨hA6 ad e,hA7 ad e⟩) (by rw[hLO];exact(inferInstance:Ay wx _).out) (.inl (Nat.lt_of_lt_of_le h6.out.lt (Ay.out (w0:=wz6))))))
       refine Yz hK_ ?_;clear hK_ K_;refine Yh 10 fun K_ hK_=> ?_
       (refine BB 6 ?_;intro z6 wz6 b6 s6 h6;have hz6:LO≤z6:=(by rw[hLO,b6.eq];exact(inferInstance:Ay wx _).out);have o6a:As (FF z0 z5) z6:=⟨fun h=>(by rcases h with h|h<;>omega)⟩;have o6b:As (only zk) z6:=⟨fun h=>(by have h':z6=zk:=h;omega)⟩;(try have hzA: ∀ad,A=some ad→ad.block≠z6:=(fun ad e=>Nat.ne_of_lt (Nat.lt_of_lt_of_le (hO.out.lt e) (by rw[b6.eq];exact(inferInstance:Ay w6 _).out))));(try have hE8:=Lib.hid (hE7.out.offT (LO:=LO) hzA (fun ad e=>⟨hA6 ad e,hA7 ad e⟩) (by rw[hLO];exact(inferInstance:Ay wx _).out) (.inr (by rw[b6.eq];exact(inferInstance:Ay w7 _).out)))))
       refine Yn hK_ ?_;clear hK_ K_;refine Yh 11 fun K_ hK_=> ?_
       (refine NN rfl rfl hone7 ?_;intro wz stz hz6b)
       refine Ym hK_ ?_;clear hK_ K_;refine Yd ?_
      rotate_left 1
      focus
       refine Yq ?_
       (refine BB 6 ?_;intro z6 wz6 b6 s6 h6;have hz6:LO≤z6:=(by rw[hLO,b6.eq];exact(inferInstance:Ay wx _).out);have o6a:As (FF z0 z5) z6:=⟨fun h=>(by rcases h with h|h<;>omega)⟩;have o6b:As (only zk) z6:=⟨fun h=>(by have h':z6=zk:=h;omega)⟩;(try have hzA: ∀ad,A=some ad→ad.block≠z6:=(fun ad e=>Nat.ne_of_lt (Nat.lt_of_lt_of_le (hO.out.lt e) (by rw[b6.eq];exact(inferInstance:Ay w6 _).out))));(try have hE8:=Lib.hid (hE7.out.offT (LO:=LO) hzA (fun ad e=>⟨hA6 ad e,hA7 ad e⟩) (by rw[hLO];exact(inferInstance:Ay wx _).out) (.inr (by rw[b6.eq];exact(inferInstance:Ay w7 _).out)))))
       refine Yn hK_ ?_;clear hK_ K_;refine Yg 9 fun K_ hK_=> ?_
       go_simp;refine Calls.mono (BT (zs:=z5) (zk:=z0) (pub:=AQ (Ao sd 0)) (seed:=Ao sd 0) (used:=used) (m:=EU sd (g+1)) HN.out.symm (CN hO.out) (by rw[HN.out];exact HLEN.out) h0 h16 h05 (fun ad e=>by have:=hA6 ad e;constructor<;>omega)) ?_;rintro e w7 ⟨v7,rfl,st7,hk7,hs7,hE7⟩;have hone7:(#[.slice A n c,v7]:Array Value).all (·.oneCell')=true:=DW _ _ rfl hE7.out.v.one.2;have hA7: ∀ad,A=some ad→ad.block<w7.heap.size:=fun ad e=>Nat.lt_of_lt_of_le (hO.out.lt e) (inferInstance:Ay w6 w7).out
       (try have hE8:=Lib.hid (hE7.out.offT (LO:=LO) hzA (fun ad e=>⟨hA6 ad e,hA7 ad e⟩) (by rw[hLO];exact(inferInstance:Ay wx _).out) (.inl (Nat.lt_of_lt_of_le h6.out.lt (Ay.out (w0:=wz6))))))
       refine Yz hK_ ?_;clear hK_ K_;refine Yh 11 fun K_ hK_=> ?_
       (refine NN rfl rfl hone7 ?_;intro wz stz hz6b)
       refine Ym hK_ ?_;clear hK_ K_;refine Yd ?_
      rotate_left 1
     rotate_left 2
     focus
      refine Yq ?_
      (refine BB 6 ?_;intro z6 wz6 b6 s6 h6;have hz6:LO≤z6:=(by rw[hLO,b6.eq];exact(inferInstance:Ay wx _).out);have o6a:As (FF z0 z5) z6:=⟨fun h=>(by rcases h with h|h<;>omega)⟩;have o6b:As (only zk) z6:=⟨fun h=>(by have h':z6=zk:=h;omega)⟩;(try have hzA: ∀ad,A=some ad→ad.block≠z6:=(fun ad e=>Nat.ne_of_lt (Nat.lt_of_lt_of_le (hO.out.lt e) (by rw[b6.eq];exact(inferInstance:Ay w6 _).out))));(try have hE8:=Lib.hid (hE7.out.offT (LO:=LO) hzA (fun ad e=>⟨hA6 ad e,hA7 ad e⟩) (by rw[hLO];exact(inferInstance:Ay wx _).out) (.inr (by rw[b6.eq];exact(inferInstance:Ay w7 _).out)))))
      refine Yn hK_ ?_;clear hK_ K_;refine Yg 6 fun K_ hK_=> ?_
      go_simp;refine(Br (g+1) 1073741824 K hK (fun k hk=>BN.chg (hKM.out.1 k hk) (Aa (w0:=w5)).chg (fun _ _ h=>h))).mono ?_;unfold AR;rw[HOK.out,HKE.out];rintro e w6 ⟨st6,A,n,c,rfl,hn,hO,hN⟩;have HN:=Lib.hid hn;clear hn;have hA6: ∀ad,A=some ad→LO≤ad.block:=fun ad e=>Nat.le_trans (by rw[hLO];exact(inferInstance:Ay wx _).out) (hN.out ad e)
      (try have hzA: ∀ad,A=some ad→ad.block≠z6:=(fun ad e=>Nat.ne_of_gt (Nat.lt_of_lt_of_le (Nat.lt_of_lt_of_le h6.out.lt (Ay.out (w0:=wz6))) (hN.out ad e))))
      have hrA:HR w6 A (bs (EU sd (g+1))):=⟨hO.out.rd⟩;refine Yz hK_ ?_;clear hK_ K_;refine YS 7 ?_;refine YS 8 ?_;refine Yg 9 fun K_ hK_=> ?_
      go_simp;refine Calls.mono (BT (zs:=z5) (zk:=z0) (pub:=AQ (Ao sd 0)) (seed:=Ao sd 0) (used:=used) (m:=EU sd (g+1)) HN.out.symm (CN hO.out) (by rw[HN.out];exact HLEN.out) h0 h16 h05 (fun ad e=>by have:=hA6 ad e;constructor<;>omega)) ?_;rintro e w7 ⟨v7,rfl,st7,hk7,hs7,hE7⟩;have hone7:(#[.slice A n c,v7]:Array Value).all (·.oneCell')=true:=DW _ _ rfl hE7.out.v.one.2;have hA7: ∀ad,A=some ad→ad.block<w7.heap.size:=fun ad e=>Nat.lt_of_lt_of_le (hO.out.lt e) (inferInstance:Ay w6 w7).out
      (try have hE8:=Lib.hid (hE7.out.offT (LO:=LO) hzA (fun ad e=>⟨hA6 ad e,hA7 ad e⟩) (by rw[hLO];exact(inferInstance:Ay wx _).out) (.inl (Nat.lt_of_lt_of_le h6.out.lt (Ay.out (w0:=wz6))))))
      refine Yz hK_ ?_;clear hK_ K_;refine Yh 11 fun K_ hK_=> ?_
      (refine NN rfl rfl hone7 ?_;intro wz stz hz6b)
      refine Ym hK_ ?_;clear hK_ K_;refine Yd ?_
     rotate_left 1
    rotate_left 3
    focus
     refine Yq ?_
     (refine BB 6 ?_;intro z6 wz6 b6 s6 h6;have hz6:LO≤z6:=(by rw[hLO,b6.eq];exact(inferInstance:Ay wx _).out);have o6a:As (FF z0 z5) z6:=⟨fun h=>(by rcases h with h|h<;>omega)⟩;have o6b:As (only zk) z6:=⟨fun h=>(by have h':z6=zk:=h;omega)⟩;(try have hzA: ∀ad,A=some ad→ad.block≠z6:=(fun ad e=>Nat.ne_of_lt (Nat.lt_of_lt_of_le (hO.out.lt e) (by rw[b6.eq];exact(inferInstance:Ay w6 _).out))));(try have hE8:=Lib.hid (hE7.out.offT (LO:=LO) hzA (fun ad e=>⟨hA6 ad e,hA7 ad e⟩) (by rw[hLO];exact(inferInstance:Ay wx _).out) (.inr (by rw[b6.eq];exact(inferInstance:Ay w7 _).out)))))
     refine Yn hK_ ?_;clear hK_ K_;refine Yg 5 fun K_ hK_=> ?_
     go_simp;refine(CW (g+1) (AQ (Ao sd 0)) (AQ (Ao sd (g+1))) _).mono ?_;rintro e w5 ⟨K,rfl,hK,st5,hKM⟩;have HOK:Hid (Dc (g+1) 1073741824 K=true):=Lib.hid (by rw[←Fb,hKM.out.2];exact FU _ _ _ hver.out);have HKE:Hid (Ae [1]++(Ae [g+1,1073741824]++CO K)=EU sd (g+1)):=Lib.hid (by rw[←Fm,hKM.out.2];rfl);refine Yz hK_ ?_;clear hK_ K_;refine Yg 6 fun K_ hK_=> ?_
     go_simp;refine(Br (g+1) 1073741824 K hK (fun k hk=>BN.chg (hKM.out.1 k hk) (Aa (w0:=w5)).chg (fun _ _ h=>h))).mono ?_;unfold AR;rw[HOK.out,HKE.out];rintro e w6 ⟨st6,A,n,c,rfl,hn,hO,hN⟩;have HN:=Lib.hid hn;clear hn;have hA6: ∀ad,A=some ad→LO≤ad.block:=fun ad e=>Nat.le_trans (by rw[hLO];exact(inferInstance:Ay wx _).out) (hN.out ad e)
     (try have hzA: ∀ad,A=some ad→ad.block≠z6:=(fun ad e=>Nat.ne_of_gt (Nat.lt_of_lt_of_le (Nat.lt_of_lt_of_le h6.out.lt (Ay.out (w0:=wz6))) (hN.out ad e))))
     have hrA:HR w6 A (bs (EU sd (g+1))):=⟨hO.out.rd⟩;refine Yz hK_ ?_;clear hK_ K_;refine YS 7 ?_;refine YS 8 ?_;refine Yg 9 fun K_ hK_=> ?_
     go_simp;refine Calls.mono (BT (zs:=z5) (zk:=z0) (pub:=AQ (Ao sd 0)) (seed:=Ao sd 0) (used:=used) (m:=EU sd (g+1)) HN.out.symm (CN hO.out) (by rw[HN.out];exact HLEN.out) h0 h16 h05 (fun ad e=>by have:=hA6 ad e;constructor<;>omega)) ?_;rintro e w7 ⟨v7,rfl,st7,hk7,hs7,hE7⟩;have hone7:(#[.slice A n c,v7]:Array Value).all (·.oneCell')=true:=DW _ _ rfl hE7.out.v.one.2;have hA7: ∀ad,A=some ad→ad.block<w7.heap.size:=fun ad e=>Nat.lt_of_lt_of_le (hO.out.lt e) (inferInstance:Ay w6 w7).out
     (try have hE8:=Lib.hid (hE7.out.offT (LO:=LO) hzA (fun ad e=>⟨hA6 ad e,hA7 ad e⟩) (by rw[hLO];exact(inferInstance:Ay wx _).out) (.inl (Nat.lt_of_lt_of_le h6.out.lt (Ay.out (w0:=wz6))))))
     refine Yz hK_ ?_;clear hK_ K_;refine Yh 11 fun K_ hK_=> ?_
     (refine NN rfl rfl hone7 ?_;intro wz stz hz6b)
     refine Ym hK_ ?_;clear hK_ K_;refine Yd ?_
    rotate_left 1
   rotate_left 4
   focus
    refine Yq ?_
    (refine BB 6 ?_;intro z6 wz6 b6 s6 h6;have hz6:LO≤z6:=(by rw[hLO,b6.eq];exact(inferInstance:Ay wx _).out);have o6a:As (FF z0 z5) z6:=⟨fun h=>(by rcases h with h|h<;>omega)⟩;have o6b:As (only zk) z6:=⟨fun h=>(by have h':z6=zk:=h;omega)⟩;(try have hzA: ∀ad,A=some ad→ad.block≠z6:=(fun ad e=>Nat.ne_of_lt (Nat.lt_of_lt_of_le (hO.out.lt e) (by rw[b6.eq];exact(inferInstance:Ay w6 _).out))));(try have hE8:=Lib.hid (hE7.out.offT (LO:=LO) hzA (fun ad e=>⟨hA6 ad e,hA7 ad e⟩) (by rw[hLO];exact(inferInstance:Ay wx _).out) (.inr (by rw[b6.eq];exact(inferInstance:Ay w7 _).out)))))
    refine Yn hK_ ?_;clear hK_ K_;refine Yg 4 fun K_ hK_=> ?_
    go_simp;refine(Bx (zk:=zk) (seed:=Ao sd (g+1)) (used:=0)).mono ?_;rintro e w4 ⟨rfl,st4,hk4⟩;refine Yz hK_ ?_;clear hK_ K_;refine Yg 5 fun K_ hK_=> ?_
    go_simp;refine(CW (g+1) (AQ (Ao sd 0)) (AQ (Ao sd (g+1))) _).mono ?_;rintro e w5 ⟨K,rfl,hK,st5,hKM⟩;have HOK:Hid (Dc (g+1) 1073741824 K=true):=Lib.hid (by rw[←Fb,hKM.out.2];exact FU _ _ _ hver.out);have HKE:Hid (Ae [1]++(Ae [g+1,1073741824]++CO K)=EU sd (g+1)):=Lib.hid (by rw[←Fm,hKM.out.2];rfl);refine Yz hK_ ?_;clear hK_ K_;refine Yg 6 fun K_ hK_=> ?_
    go_simp;refine(Br (g+1) 1073741824 K hK (fun k hk=>BN.chg (hKM.out.1 k hk) (Aa (w0:=w5)).chg (fun _ _ h=>h))).mono ?_;unfold AR;rw[HOK.out,HKE.out];rintro e w6 ⟨st6,A,n,c,rfl,hn,hO,hN⟩;have HN:=Lib.hid hn;clear hn;have hA6: ∀ad,A=some ad→LO≤ad.block:=fun ad e=>Nat.le_trans (by rw[hLO];exact(inferInstance:Ay wx _).out) (hN.out ad e)
    (try have hzA: ∀ad,A=some ad→ad.block≠z6:=(fun ad e=>Nat.ne_of_gt (Nat.lt_of_lt_of_le (Nat.lt_of_lt_of_le h6.out.lt (Ay.out (w0:=wz6))) (hN.out ad e))))
    have hrA:HR w6 A (bs (EU sd (g+1))):=⟨hO.out.rd⟩;refine Yz hK_ ?_;clear hK_ K_;refine YS 7 ?_;refine YS 8 ?_;refine Yg 9 fun K_ hK_=> ?_
    go_simp;refine Calls.mono (BT (zs:=z5) (zk:=z0) (pub:=AQ (Ao sd 0)) (seed:=Ao sd 0) (used:=used) (m:=EU sd (g+1)) HN.out.symm (CN hO.out) (by rw[HN.out];exact HLEN.out) h0 h16 h05 (fun ad e=>by have:=hA6 ad e;constructor<;>omega)) ?_;rintro e w7 ⟨v7,rfl,st7,hk7,hs7,hE7⟩;have hone7:(#[.slice A n c,v7]:Array Value).all (·.oneCell')=true:=DW _ _ rfl hE7.out.v.one.2;have hA7: ∀ad,A=some ad→ad.block<w7.heap.size:=fun ad e=>Nat.lt_of_lt_of_le (hO.out.lt e) (inferInstance:Ay w6 w7).out
    (try have hE8:=Lib.hid (hE7.out.offT (LO:=LO) hzA (fun ad e=>⟨hA6 ad e,hA7 ad e⟩) (by rw[hLO];exact(inferInstance:Ay wx _).out) (.inl (Nat.lt_of_lt_of_le h6.out.lt (Ay.out (w0:=wz6))))))
    refine Yz hK_ ?_;clear hK_ K_;refine Yh 11 fun K_ hK_=> ?_
    (refine NN rfl rfl hone7 ?_;intro wz stz hz6b)
    refine Ym hK_ ?_;clear hK_ K_;refine Yd ?_
   rotate_left 1
  rotate_left 5
  focus
   go_simp;refine(Bx (zk:=zk) (seed:=Ao sd (g+1)) (used:=0)).mono ?_;rintro e w4 ⟨rfl,st4,hk4⟩;refine Yz hK_ ?_;clear hK_ K_;refine wpAnyH_ready (rs:=[2,10]) (by kernel_rfl) (by simp) (AllReadyH.cons rfl (fun K_ hK_=> ?_) (AllReadyH.cons rfl (fun K_ hK_=> ?_) AllReadyH.nil))
   focus
    refine Yq ?_
    ((with_reducible apply(Eh (k:=0)));exact rfl;infer_instance;infer_instance;exact Mt _ _ _)
    refine Yn hK_ ?_;clear hK_ K_;refine wpAnyH_ready (rs:=[5,10]) (by kernel_rfl) (by simp) (AllReadyH.cons rfl (fun K_ hK_=> ?_) (AllReadyH.cons rfl (fun K_ hK_=> ?_) AllReadyH.nil))
    focus
     go_simp;refine(CW (g+1) (AQ (Ao sd 0)) (AQ (Ao sd (g+1))) _).mono ?_;rintro e w5 ⟨K,rfl,hK,st5,hKM⟩;have HOK:Hid (Dc (g+1) 1073741824 K=true):=Lib.hid (by rw[←Fb,hKM.out.2];exact FU _ _ _ hver.out);have HKE:Hid (Ae [1]++(Ae [g+1,1073741824]++CO K)=EU sd (g+1)):=Lib.hid (by rw[←Fm,hKM.out.2];rfl);refine Yz hK_ ?_;clear hK_ K_;refine wpAnyH_ready (rs:=[6,10]) (by kernel_rfl) (by simp) (AllReadyH.cons rfl (fun K_ hK_=> ?_) (AllReadyH.cons rfl (fun K_ hK_=> ?_) AllReadyH.nil))
     focus
      go_simp;refine(Br (g+1) 1073741824 K hK (fun k hk=>BN.chg (hKM.out.1 k hk) (Aa (w0:=w5)).chg (fun _ _ h=>h))).mono ?_;unfold AR;rw[HOK.out,HKE.out];rintro e w6 ⟨st6,A,n,c,rfl,hn,hO,hN⟩;have HN:=Lib.hid hn;clear hn;have hA6: ∀ad,A=some ad→LO≤ad.block:=fun ad e=>Nat.le_trans (by rw[hLO];exact(inferInstance:Ay wx _).out) (hN.out ad e)
      (try have hzA: ∀ad,A=some ad→ad.block≠z6:=(fun ad e=>Nat.ne_of_gt (Nat.lt_of_lt_of_le (Nat.lt_of_lt_of_le h6.out.lt (Ay.out (w0:=wz6))) (hN.out ad e))))
      have hrA:HR w6 A (bs (EU sd (g+1))):=⟨hO.out.rd⟩;refine Yz hK_ ?_;clear hK_ K_;refine YS 7 ?_;refine YS 8 ?_;refine wpAnyH_ready (rs:=[9,10]) (by kernel_rfl) (by simp) (AllReadyH.cons rfl (fun K_ hK_=> ?_) (AllReadyH.cons rfl (fun K_ hK_=> ?_) AllReadyH.nil))
      focus
       go_simp;refine Calls.mono (BT (zs:=z5) (zk:=z0) (pub:=AQ (Ao sd 0)) (seed:=Ao sd 0) (used:=used) (m:=EU sd (g+1)) HN.out.symm (CN hO.out) (by rw[HN.out];exact HLEN.out) h0 h16 h05 (fun ad e=>by have:=hA6 ad e;constructor<;>omega)) ?_;rintro e w7 ⟨v7,rfl,st7,hk7,hs7,hE7⟩;have hone7:(#[.slice A n c,v7]:Array Value).all (·.oneCell')=true:=DW _ _ rfl hE7.out.v.one.2;have hA7: ∀ad,A=some ad→ad.block<w7.heap.size:=fun ad e=>Nat.lt_of_lt_of_le (hO.out.lt e) (inferInstance:Ay w6 w7).out
       (try have hE8:=Lib.hid (hE7.out.offT (LO:=LO) hzA (fun ad e=>⟨hA6 ad e,hA7 ad e⟩) (by rw[hLO];exact(inferInstance:Ay wx _).out) (.inl (Nat.lt_of_lt_of_le h6.out.lt (Ay.out (w0:=wz6))))))
       refine Yz hK_ ?_;clear hK_ K_;refine Yh 10 fun K_ hK_=> ?_
       (refine BB 6 ?_;intro z6 wz6 b6 s6 h6;have hz6:LO≤z6:=(by rw[hLO,b6.eq];exact(inferInstance:Ay wx _).out);have o6a:As (FF z0 z5) z6:=⟨fun h=>(by rcases h with h|h<;>omega)⟩;have o6b:As (only zk) z6:=⟨fun h=>(by have h':z6=zk:=h;omega)⟩;(try have hzA: ∀ad,A=some ad→ad.block≠z6:=(fun ad e=>Nat.ne_of_lt (Nat.lt_of_lt_of_le (hO.out.lt e) (by rw[b6.eq];exact(inferInstance:Ay w6 _).out))));(try have hE8:=Lib.hid (hE7.out.offT (LO:=LO) hzA (fun ad e=>⟨hA6 ad e,hA7 ad e⟩) (by rw[hLO];exact(inferInstance:Ay wx _).out) (.inr (by rw[b6.eq];exact(inferInstance:Ay w7 _).out)))))
       refine Yn hK_ ?_;clear hK_ K_;refine Yh 11 fun K_ hK_=> ?_
       (refine NN rfl rfl hone7 ?_;intro wz stz hz6b)
       refine Ym hK_ ?_;clear hK_ K_;refine Yd ?_
      rotate_left 1
      focus
       refine Yq ?_
       (refine BB 6 ?_;intro z6 wz6 b6 s6 h6;have hz6:LO≤z6:=(by rw[hLO,b6.eq];exact(inferInstance:Ay wx _).out);have o6a:As (FF z0 z5) z6:=⟨fun h=>(by rcases h with h|h<;>omega)⟩;have o6b:As (only zk) z6:=⟨fun h=>(by have h':z6=zk:=h;omega)⟩;(try have hzA: ∀ad,A=some ad→ad.block≠z6:=(fun ad e=>Nat.ne_of_lt (Nat.lt_of_lt_of_le (hO.out.lt e) (by rw[b6.eq];exact(inferInstance:Ay w6 _).out))));(try have hE8:=Lib.hid (hE7.out.offT (LO:=LO) hzA (fun ad e=>⟨hA6 ad e,hA7 ad e⟩) (by rw[hLO];exact(inferInstance:Ay wx _).out) (.inr (by rw[b6.eq];exact(inferInstance:Ay w7 _).out)))))
       refine Yn hK_ ?_;clear hK_ K_;refine Yg 9 fun K_ hK_=> ?_
       go_simp;refine Calls.mono (BT (zs:=z5) (zk:=z0) (pub:=AQ (Ao sd 0)) (seed:=Ao sd 0) (used:=used) (m:=EU sd (g+1)) HN.out.symm (CN hO.out) (by rw[HN.out];exact HLEN.out) h0 h16 h05 (fun ad e=>by have:=hA6 ad e;constructor<;>omega)) ?_;rintro e w7 ⟨v7,rfl,st7,hk7,hs7,hE7⟩;have hone7:(#[.slice A n c,v7]:Array Value).all (·.oneCell')=true:=DW _ _ rfl hE7.out.v.one.2;have hA7: ∀ad,A=some ad→ad.block<w7.heap.size:=fun ad e=>Nat.lt_of_lt_of_le (hO.out.lt e) (inferInstance:Ay w6 w7).out
       (try have hE8:=Lib.hid (hE7.out.offT (LO:=LO) hzA (fun ad e=>⟨hA6 ad e,hA7 ad e⟩) (by rw[hLO];exact(inferInstance:Ay wx _).out) (.inl (Nat.lt_of_lt_of_le h6.out.lt (Ay.out (w0:=wz6))))))
       refine Yz hK_ ?_;clear hK_ K_;refine Yh 11 fun K_ hK_=> ?_
       (refine NN rfl rfl hone7 ?_;intro wz stz hz6b)
       refine Ym hK_ ?_;clear hK_ K_;refine Yd ?_
      rotate_left 1
     rotate_left 2
     focus
      refine Yq ?_
      (refine BB 6 ?_;intro z6 wz6 b6 s6 h6;have hz6:LO≤z6:=(by rw[hLO,b6.eq];exact(inferInstance:Ay wx _).out);have o6a:As (FF z0 z5) z6:=⟨fun h=>(by rcases h with h|h<;>omega)⟩;have o6b:As (only zk) z6:=⟨fun h=>(by have h':z6=zk:=h;omega)⟩;(try have hzA: ∀ad,A=some ad→ad.block≠z6:=(fun ad e=>Nat.ne_of_lt (Nat.lt_of_lt_of_le (hO.out.lt e) (by rw[b6.eq];exact(inferInstance:Ay w6 _).out))));(try have hE8:=Lib.hid (hE7.out.offT (LO:=LO) hzA (fun ad e=>⟨hA6 ad e,hA7 ad e⟩) (by rw[hLO];exact(inferInstance:Ay wx _).out) (.inr (by rw[b6.eq];exact(inferInstance:Ay w7 _).out)))))
      refine Yn hK_ ?_;clear hK_ K_;refine Yg 6 fun K_ hK_=> ?_
      go_simp;refine(Br (g+1) 1073741824 K hK (fun k hk=>BN.chg (hKM.out.1 k hk) (Aa (w0:=w5)).chg (fun _ _ h=>h))).mono ?_;unfold AR;rw[HOK.out,HKE.out];rintro e w6 ⟨st6,A,n,c,rfl,hn,hO,hN⟩;have HN:=Lib.hid hn;clear hn;have hA6: ∀ad,A=some ad→LO≤ad.block:=fun ad e=>Nat.le_trans (by rw[hLO];exact(inferInstance:Ay wx _).out) (hN.out ad e)
      (try have hzA: ∀ad,A=some ad→ad.block≠z6:=(fun ad e=>Nat.ne_of_gt (Nat.lt_of_lt_of_le (Nat.lt_of_lt_of_le h6.out.lt (Ay.out (w0:=wz6))) (hN.out ad e))))
      have hrA:HR w6 A (bs (EU sd (g+1))):=⟨hO.out.rd⟩;refine Yz hK_ ?_;clear hK_ K_;refine YS 7 ?_;refine YS 8 ?_;refine Yg 9 fun K_ hK_=> ?_
      go_simp;refine Calls.mono (BT (zs:=z5) (zk:=z0) (pub:=AQ (Ao sd 0)) (seed:=Ao sd 0) (used:=used) (m:=EU sd (g+1)) HN.out.symm (CN hO.out) (by rw[HN.out];exact HLEN.out) h0 h16 h05 (fun ad e=>by have:=hA6 ad e;constructor<;>omega)) ?_;rintro e w7 ⟨v7,rfl,st7,hk7,hs7,hE7⟩;have hone7:(#[.slice A n c,v7]:Array Value).all (·.oneCell')=true:=DW _ _ rfl hE7.out.v.one.2;have hA7: ∀ad,A=some ad→ad.block<w7.heap.size:=fun ad e=>Nat.lt_of_lt_of_le (hO.out.lt e) (inferInstance:Ay w6 w7).out
      (try have hE8:=Lib.hid (hE7.out.offT (LO:=LO) hzA (fun ad e=>⟨hA6 ad e,hA7 ad e⟩) (by rw[hLO];exact(inferInstance:Ay wx _).out) (.inl (Nat.lt_of_lt_of_le h6.out.lt (Ay.out (w0:=wz6))))))
      refine Yz hK_ ?_;clear hK_ K_;refine Yh 11 fun K_ hK_=> ?_
      (refine NN rfl rfl hone7 ?_;intro wz stz hz6b)
      refine Ym hK_ ?_;clear hK_ K_;refine Yd ?_
     rotate_left 1
    rotate_left 3
    focus
     refine Yq ?_
     (refine BB 6 ?_;intro z6 wz6 b6 s6 h6;have hz6:LO≤z6:=(by rw[hLO,b6.eq];exact(inferInstance:Ay wx _).out);have o6a:As (FF z0 z5) z6:=⟨fun h=>(by rcases h with h|h<;>omega)⟩;have o6b:As (only zk) z6:=⟨fun h=>(by have h':z6=zk:=h;omega)⟩;(try have hzA: ∀ad,A=some ad→ad.block≠z6:=(fun ad e=>Nat.ne_of_lt (Nat.lt_of_lt_of_le (hO.out.lt e) (by rw[b6.eq];exact(inferInstance:Ay w6 _).out))));(try have hE8:=Lib.hid (hE7.out.offT (LO:=LO) hzA (fun ad e=>⟨hA6 ad e,hA7 ad e⟩) (by rw[hLO];exact(inferInstance:Ay wx _).out) (.inr (by rw[b6.eq];exact(inferInstance:Ay w7 _).out)))))
     refine Yn hK_ ?_;clear hK_ K_;refine Yg 5 fun K_ hK_=> ?_
     go_simp;refine(CW (g+1) (AQ (Ao sd 0)) (AQ (Ao sd (g+1))) _).mono ?_;rintro e w5 ⟨K,rfl,hK,st5,hKM⟩;have HOK:Hid (Dc (g+1) 1073741824 K=true):=Lib.hid (by rw[←Fb,hKM.out.2];exact FU _ _ _ hver.out);have HKE:Hid (Ae [1]++(Ae [g+1,1073741824]++CO K)=EU sd (g+1)):=Lib.hid (by rw[←Fm,hKM.out.2];rfl);refine Yz hK_ ?_;clear hK_ K_;refine Yg 6 fun K_ hK_=> ?_
     go_simp;refine(Br (g+1) 1073741824 K hK (fun k hk=>BN.chg (hKM.out.1 k hk) (Aa (w0:=w5)).chg (fun _ _ h=>h))).mono ?_;unfold AR;rw[HOK.out,HKE.out];rintro e w6 ⟨st6,A,n,c,rfl,hn,hO,hN⟩;have HN:=Lib.hid hn;clear hn;have hA6: ∀ad,A=some ad→LO≤ad.block:=fun ad e=>Nat.le_trans (by rw[hLO];exact(inferInstance:Ay wx _).out) (hN.out ad e)
     (try have hzA: ∀ad,A=some ad→ad.block≠z6:=(fun ad e=>Nat.ne_of_gt (Nat.lt_of_lt_of_le (Nat.lt_of_lt_of_le h6.out.lt (Ay.out (w0:=wz6))) (hN.out ad e))))
     have hrA:HR w6 A (bs (EU sd (g+1))):=⟨hO.out.rd⟩;refine Yz hK_ ?_;clear hK_ K_;refine YS 7 ?_;refine YS 8 ?_;refine Yg 9 fun K_ hK_=> ?_
     go_simp;refine Calls.mono (BT (zs:=z5) (zk:=z0) (pub:=AQ (Ao sd 0)) (seed:=Ao sd 0) (used:=used) (m:=EU sd (g+1)) HN.out.symm (CN hO.out) (by rw[HN.out];exact HLEN.out) h0 h16 h05 (fun ad e=>by have:=hA6 ad e;constructor<;>omega)) ?_;rintro e w7 ⟨v7,rfl,st7,hk7,hs7,hE7⟩;have hone7:(#[.slice A n c,v7]:Array Value).all (·.oneCell')=true:=DW _ _ rfl hE7.out.v.one.2;have hA7: ∀ad,A=some ad→ad.block<w7.heap.size:=fun ad e=>Nat.lt_of_lt_of_le (hO.out.lt e) (inferInstance:Ay w6 w7).out
     (try have hE8:=Lib.hid (hE7.out.offT (LO:=LO) hzA (fun ad e=>⟨hA6 ad e,hA7 ad e⟩) (by rw[hLO];exact(inferInstance:Ay wx _).out) (.inl (Nat.lt_of_lt_of_le h6.out.lt (Ay.out (w0:=wz6))))))
     refine Yz hK_ ?_;clear hK_ K_;refine Yh 11 fun K_ hK_=> ?_
     (refine NN rfl rfl hone7 ?_;intro wz stz hz6b)
     refine Ym hK_ ?_;clear hK_ K_;refine Yd ?_
    rotate_left 1
   rotate_left 4
   focus
    refine Yq ?_
    (refine BB 6 ?_;intro z6 wz6 b6 s6 h6;have hz6:LO≤z6:=(by rw[hLO,b6.eq];exact(inferInstance:Ay wx _).out);have o6a:As (FF z0 z5) z6:=⟨fun h=>(by rcases h with h|h<;>omega)⟩;have o6b:As (only zk) z6:=⟨fun h=>(by have h':z6=zk:=h;omega)⟩;(try have hzA: ∀ad,A=some ad→ad.block≠z6:=(fun ad e=>Nat.ne_of_lt (Nat.lt_of_lt_of_le (hO.out.lt e) (by rw[b6.eq];exact(inferInstance:Ay w6 _).out))));(try have hE8:=Lib.hid (hE7.out.offT (LO:=LO) hzA (fun ad e=>⟨hA6 ad e,hA7 ad e⟩) (by rw[hLO];exact(inferInstance:Ay wx _).out) (.inr (by rw[b6.eq];exact(inferInstance:Ay w7 _).out)))))
    refine Yn hK_ ?_;clear hK_ K_;refine Yh 2 fun K_ hK_=> ?_
    ((with_reducible apply(Eh (k:=0)));exact rfl;infer_instance;infer_instance;exact Mt _ _ _)
    refine Yn hK_ ?_;clear hK_ K_;refine Yg 5 fun K_ hK_=> ?_
    go_simp;refine(CW (g+1) (AQ (Ao sd 0)) (AQ (Ao sd (g+1))) _).mono ?_;rintro e w5 ⟨K,rfl,hK,st5,hKM⟩;have HOK:Hid (Dc (g+1) 1073741824 K=true):=Lib.hid (by rw[←Fb,hKM.out.2];exact FU _ _ _ hver.out);have HKE:Hid (Ae [1]++(Ae [g+1,1073741824]++CO K)=EU sd (g+1)):=Lib.hid (by rw[←Fm,hKM.out.2];rfl);refine Yz hK_ ?_;clear hK_ K_;refine Yg 6 fun K_ hK_=> ?_
    go_simp;refine(Br (g+1) 1073741824 K hK (fun k hk=>BN.chg (hKM.out.1 k hk) (Aa (w0:=w5)).chg (fun _ _ h=>h))).mono ?_;unfold AR;rw[HOK.out,HKE.out];rintro e w6 ⟨st6,A,n,c,rfl,hn,hO,hN⟩;have HN:=Lib.hid hn;clear hn;have hA6: ∀ad,A=some ad→LO≤ad.block:=fun ad e=>Nat.le_trans (by rw[hLO];exact(inferInstance:Ay wx _).out) (hN.out ad e)
    (try have hzA: ∀ad,A=some ad→ad.block≠z6:=(fun ad e=>Nat.ne_of_gt (Nat.lt_of_lt_of_le (Nat.lt_of_lt_of_le h6.out.lt (Ay.out (w0:=wz6))) (hN.out ad e))))
    have hrA:HR w6 A (bs (EU sd (g+1))):=⟨hO.out.rd⟩;refine Yz hK_ ?_;clear hK_ K_;refine YS 7 ?_;refine YS 8 ?_;refine Yg 9 fun K_ hK_=> ?_
    go_simp;refine Calls.mono (BT (zs:=z5) (zk:=z0) (pub:=AQ (Ao sd 0)) (seed:=Ao sd 0) (used:=used) (m:=EU sd (g+1)) HN.out.symm (CN hO.out) (by rw[HN.out];exact HLEN.out) h0 h16 h05 (fun ad e=>by have:=hA6 ad e;constructor<;>omega)) ?_;rintro e w7 ⟨v7,rfl,st7,hk7,hs7,hE7⟩;have hone7:(#[.slice A n c,v7]:Array Value).all (·.oneCell')=true:=DW _ _ rfl hE7.out.v.one.2;have hA7: ∀ad,A=some ad→ad.block<w7.heap.size:=fun ad e=>Nat.lt_of_lt_of_le (hO.out.lt e) (inferInstance:Ay w6 w7).out
    (try have hE8:=Lib.hid (hE7.out.offT (LO:=LO) hzA (fun ad e=>⟨hA6 ad e,hA7 ad e⟩) (by rw[hLO];exact(inferInstance:Ay wx _).out) (.inl (Nat.lt_of_lt_of_le h6.out.lt (Ay.out (w0:=wz6))))))
    refine Yz hK_ ?_;clear hK_ K_;refine Yh 11 fun K_ hK_=> ?_
    (refine NN rfl rfl hone7 ?_;intro wz stz hz6b)
    refine Ym hK_ ?_;clear hK_ K_;refine Yd ?_
   rotate_left 1
  rotate_left 5
  focus
   refine Yq ?_
   (refine BB 6 ?_;intro z6 wz6 b6 s6 h6;have hz6:LO≤z6:=(by rw[hLO,b6.eq];exact(inferInstance:Ay wx _).out);have o6a:As (FF z0 z5) z6:=⟨fun h=>(by rcases h with h|h<;>omega)⟩;have o6b:As (only zk) z6:=⟨fun h=>(by have h':z6=zk:=h;omega)⟩;(try have hzA: ∀ad,A=some ad→ad.block≠z6:=(fun ad e=>Nat.ne_of_lt (Nat.lt_of_lt_of_le (hO.out.lt e) (by rw[b6.eq];exact(inferInstance:Ay w6 _).out))));(try have hE8:=Lib.hid (hE7.out.offT (LO:=LO) hzA (fun ad e=>⟨hA6 ad e,hA7 ad e⟩) (by rw[hLO];exact(inferInstance:Ay wx _).out) (.inr (by rw[b6.eq];exact(inferInstance:Ay w7 _).out)))))
   refine Yn hK_ ?_;clear hK_ K_;refine wpAnyH_ready (rs:=[2,4]) (by kernel_rfl) (by simp) (AllReadyH.cons rfl (fun K_ hK_=> ?_) (AllReadyH.cons rfl (fun K_ hK_=> ?_) AllReadyH.nil))
   focus
    refine Yq ?_
    ((with_reducible apply(Eh (k:=0)));exact rfl;infer_instance;infer_instance;exact Mt _ _ _)
    refine Yn hK_ ?_;clear hK_ K_;refine Yg 4 fun K_ hK_=> ?_
    go_simp;refine(Bx (zk:=zk) (seed:=Ao sd (g+1)) (used:=0)).mono ?_;rintro e w4 ⟨rfl,st4,hk4⟩;refine Yz hK_ ?_;clear hK_ K_;refine Yg 5 fun K_ hK_=> ?_
    go_simp;refine(CW (g+1) (AQ (Ao sd 0)) (AQ (Ao sd (g+1))) _).mono ?_;rintro e w5 ⟨K,rfl,hK,st5,hKM⟩;have HOK:Hid (Dc (g+1) 1073741824 K=true):=Lib.hid (by rw[←Fb,hKM.out.2];exact FU _ _ _ hver.out);have HKE:Hid (Ae [1]++(Ae [g+1,1073741824]++CO K)=EU sd (g+1)):=Lib.hid (by rw[←Fm,hKM.out.2];rfl);refine Yz hK_ ?_;clear hK_ K_;refine Yg 6 fun K_ hK_=> ?_
    go_simp;refine(Br (g+1) 1073741824 K hK (fun k hk=>BN.chg (hKM.out.1 k hk) (Aa (w0:=w5)).chg (fun _ _ h=>h))).mono ?_;unfold AR;rw[HOK.out,HKE.out];rintro e w6 ⟨st6,A,n,c,rfl,hn,hO,hN⟩;have HN:=Lib.hid hn;clear hn;have hA6: ∀ad,A=some ad→LO≤ad.block:=fun ad e=>Nat.le_trans (by rw[hLO];exact(inferInstance:Ay wx _).out) (hN.out ad e)
    (try have hzA: ∀ad,A=some ad→ad.block≠z6:=(fun ad e=>Nat.ne_of_gt (Nat.lt_of_lt_of_le (Nat.lt_of_lt_of_le h6.out.lt (Ay.out (w0:=wz6))) (hN.out ad e))))
    have hrA:HR w6 A (bs (EU sd (g+1))):=⟨hO.out.rd⟩;refine Yz hK_ ?_;clear hK_ K_;refine YS 7 ?_;refine YS 8 ?_;refine Yg 9 fun K_ hK_=> ?_
    go_simp;refine Calls.mono (BT (zs:=z5) (zk:=z0) (pub:=AQ (Ao sd 0)) (seed:=Ao sd 0) (used:=used) (m:=EU sd (g+1)) HN.out.symm (CN hO.out) (by rw[HN.out];exact HLEN.out) h0 h16 h05 (fun ad e=>by have:=hA6 ad e;constructor<;>omega)) ?_;rintro e w7 ⟨v7,rfl,st7,hk7,hs7,hE7⟩;have hone7:(#[.slice A n c,v7]:Array Value).all (·.oneCell')=true:=DW _ _ rfl hE7.out.v.one.2;have hA7: ∀ad,A=some ad→ad.block<w7.heap.size:=fun ad e=>Nat.lt_of_lt_of_le (hO.out.lt e) (inferInstance:Ay w6 w7).out
    (try have hE8:=Lib.hid (hE7.out.offT (LO:=LO) hzA (fun ad e=>⟨hA6 ad e,hA7 ad e⟩) (by rw[hLO];exact(inferInstance:Ay wx _).out) (.inl (Nat.lt_of_lt_of_le h6.out.lt (Ay.out (w0:=wz6))))))
    refine Yz hK_ ?_;clear hK_ K_;refine Yh 11 fun K_ hK_=> ?_
    (refine NN rfl rfl hone7 ?_;intro wz stz hz6b)
    refine Ym hK_ ?_;clear hK_ K_;refine Yd ?_
   rotate_left 1
   focus
    go_simp;refine(Bx (zk:=zk) (seed:=Ao sd (g+1)) (used:=0)).mono ?_;rintro e w4 ⟨rfl,st4,hk4⟩;refine Yz hK_ ?_;clear hK_ K_;refine Yh 2 fun K_ hK_=> ?_
    ((with_reducible apply(Eh (k:=0)));exact rfl;infer_instance;infer_instance;exact Mt _ _ _)
    refine Yn hK_ ?_;clear hK_ K_;refine Yg 5 fun K_ hK_=> ?_
    go_simp;refine(CW (g+1) (AQ (Ao sd 0)) (AQ (Ao sd (g+1))) _).mono ?_;rintro e w5 ⟨K,rfl,hK,st5,hKM⟩;have HOK:Hid (Dc (g+1) 1073741824 K=true):=Lib.hid (by rw[←Fb,hKM.out.2];exact FU _ _ _ hver.out);have HKE:Hid (Ae [1]++(Ae [g+1,1073741824]++CO K)=EU sd (g+1)):=Lib.hid (by rw[←Fm,hKM.out.2];rfl);refine Yz hK_ ?_;clear hK_ K_;refine Yg 6 fun K_ hK_=> ?_
    go_simp;refine(Br (g+1) 1073741824 K hK (fun k hk=>BN.chg (hKM.out.1 k hk) (Aa (w0:=w5)).chg (fun _ _ h=>h))).mono ?_;unfold AR;rw[HOK.out,HKE.out];rintro e w6 ⟨st6,A,n,c,rfl,hn,hO,hN⟩;have HN:=Lib.hid hn;clear hn;have hA6: ∀ad,A=some ad→LO≤ad.block:=fun ad e=>Nat.le_trans (by rw[hLO];exact(inferInstance:Ay wx _).out) (hN.out ad e)
    (try have hzA: ∀ad,A=some ad→ad.block≠z6:=(fun ad e=>Nat.ne_of_gt (Nat.lt_of_lt_of_le (Nat.lt_of_lt_of_le h6.out.lt (Ay.out (w0:=wz6))) (hN.out ad e))))
    have hrA:HR w6 A (bs (EU sd (g+1))):=⟨hO.out.rd⟩;refine Yz hK_ ?_;clear hK_ K_;refine YS 7 ?_;refine YS 8 ?_;refine Yg 9 fun K_ hK_=> ?_
    go_simp;refine Calls.mono (BT (zs:=z5) (zk:=z0) (pub:=AQ (Ao sd 0)) (seed:=Ao sd 0) (used:=used) (m:=EU sd (g+1)) HN.out.symm (CN hO.out) (by rw[HN.out];exact HLEN.out) h0 h16 h05 (fun ad e=>by have:=hA6 ad e;constructor<;>omega)) ?_;rintro e w7 ⟨v7,rfl,st7,hk7,hs7,hE7⟩;have hone7:(#[.slice A n c,v7]:Array Value).all (·.oneCell')=true:=DW _ _ rfl hE7.out.v.one.2;have hA7: ∀ad,A=some ad→ad.block<w7.heap.size:=fun ad e=>Nat.lt_of_lt_of_le (hO.out.lt e) (inferInstance:Ay w6 w7).out
    (try have hE8:=Lib.hid (hE7.out.offT (LO:=LO) hzA (fun ad e=>⟨hA6 ad e,hA7 ad e⟩) (by rw[hLO];exact(inferInstance:Ay wx _).out) (.inl (Nat.lt_of_lt_of_le h6.out.lt (Ay.out (w0:=wz6))))))
    refine Yz hK_ ?_;clear hK_ K_;refine Yh 11 fun K_ hK_=> ?_
    (refine NN rfl rfl hone7 ?_;intro wz stz hz6b)
    refine Ym hK_ ?_;clear hK_ K_;refine Yd ?_
   rotate_left 1
  rotate_left 2
  all_goals
   have o6r:As (only z6) zr:=⟨fun e=>by have e':zr=z6:=e;omega⟩;have o60:As (only z6) z0:=⟨fun e=>by have e':z0=z6:=e;omega⟩;have o6k:As (only z6) zk:=⟨fun e=>by have e':zk=z6:=e;omega⟩;have o65:As (only z6) z5:=⟨fun e=>by have e':z5=z6:=e;omega⟩;have ab6:Cn wx (only z6):=⟨fun x h=>by have h':x=z6:=h;omega⟩;have hbz:HB wz zr 84 (Bg sd (.pointer (some ⟨z0,0,none⟩)) p1 f g v [bt, .slice X xn xc,t0,t1,s0,s1,xg,lg]).toArray :=inferInstance;have hkz:AH wz z0 (Ao sd 0) (used+1):=inferInstance;have hkkz:AH wz zk (Ao sd (g+1)) 0:=inferInstance;have hs5z:HB wz z5 94 (Je (AQ (Ao sd 0)) (.func (.func 28) #[.pointer (some ⟨z0,0,none⟩)] #[]) 0).toArray :=inferInstance;have hc7:Au (only z6) w7 wz:=(inferInstance:Ch (only z6) w7 wz).out;have hE9:=Lib.hid ((hE8.out.chg hc7 (fun y h h2=>h.2.2 h2)).x (lo:=LO) (hi:=w7.heap.size) (fun y h=>⟨h.1,h.2.1⟩));have hcz:Au (thr z0 z5 zk) wx wz:=(inferInstance:Ch (thr z0 z5 zk) wx wz).out;have hsz7:=hc7.size;have hLO7:LO≤w7.heap.size:=by rw[hLO];exact(inferInstance:Ay wx w7).out
   have hCwz:Hid (Au (FF z0 zr) w wz):=Lib.hid (hCwx.out.trans hcz (fun x hx h=>by
    rcases h with h|h|h
    ·exact .inl h
    ·omega
    have:=HWZ.out;omega))
   have hz6l:=hz6b.out.lt;obtain⟨HI,hHI⟩: ∃n,n=w7.heap.size:=⟨_,rfl⟩;rw[←hHI] at hE9 hsz7 hLO7;clear hHI;obtain⟨wy,hwy⟩: ∃x:World,x=wz:=⟨_,rfl⟩;subst hwy;clear hE8 hE7 hs7 hk7 hO hN hrA hk4 hc7 hcz hkx hkkx hbx hsx hzA HOK HKE HN hKM;clear st7 st6 st5 st4 stz b6 s6 h6 o6a o6b;have hX9:HO wy 58 2 X xn xc (cellsOf xl):=⟨HX0.out.chg hCwz.out (fun ad e h=>by rcases h with h|h;exact(hX ad e).1 h;exact(hX ad e).2 h)⟩;have hXl: ∀ad,X=some ad→ad.block<w.heap.size:=fun ad e=>HX0.out.lt e
   have hxl:=HXL.out;have HZ33: ∀p,Hid (33<(Bg sd (.pointer (some ⟨z0,0,none⟩)) p f g v [bt, .slice X xn xc,t0,t1,s0,s1,xg,lg]).toArray.size):=fun p=>Lib.hid (by rw[Ni _ _ _ _ _ _ _ rfl];decide)
   have HZ66: ∀p,Hid (66<(Bg sd (.pointer (some ⟨z0,0,none⟩)) p f g v [bt, .slice X xn xc,t0,t1,s0,s1,xg,lg]).toArray.size):=fun p=>Lib.hid (by rw[Ni _ _ _ _ _ _ _ rfl];decide)
   have HZ69: ∀p,Hid (69<(Bg sd (.pointer (some ⟨z0,0,none⟩)) p f (g+1) v [bt, .slice X xn xc,t0,t1,s0,s1,xg,lg]).toArray.size):=fun p=>Lib.hid (by rw[Ni _ _ _ _ _ _ _ rfl];decide)
   have hc69:Eg (Bg sd (.pointer (some ⟨z0,0,none⟩)) (.pointer (some ⟨zk,0,none⟩)) f (g+1) v [bt, .slice X xn xc,t0,t1,s0,s1,xg,lg]).toArray.toList 69=some (.slice X xn xc):=by
    rw[←Bp];exact Jz sd _ _ f (g+1) v _ 1
   have or0:As (only zr) z0:=⟨hne⟩;have ork:As (only zr) zk:=⟨fun e=>by have e':zk=zr:=e;omega⟩;have or6:As (only zr) z6:=⟨fun e=>by have e':z6=zr:=e;omega⟩;have orX:BW (only zr) X:=⟨fun ad e h=>(hX ad e).2 h⟩;go_wp2_with (first|(refine SS 33 hs5z (Xn _ _ _) ?_)|(refine WSk 33 hbz ((HZ33 _).out) ?_;intro wA stA hbA0;have hbA:HB wA zr 84 (Bg sd (.pointer (some ⟨z0,0,none⟩)) (.pointer (some ⟨zk,0,none⟩)) f g v [bt, .slice X xn xc,t0,t1,s0,s1,xg,lg]).toArray :=HB.row_eqS hbA0 (Aaz _ _ _ _ _ _ _ _);clear hbA0)|(refine WSk 66 hbA ((HZ66 _).out) ?_;intro wB stB hbB0;have hbB:HB wB zr 84 (Bg sd (.pointer (some ⟨z0,0,none⟩)) (.pointer (some ⟨zk,0,none⟩)) f (g+1) v [bt, .slice X xn xc,t0,t1,s0,s1,xg,lg]).toArray :=HB.row_eqS hbB0 (Ab0 _ _ _ _ _ _ _ _);clear hbB0));have hkB:AH wB z0 (Ao sd 0) (used+1):=inferInstance;have hkkB:AH wB zk (Ao sd (g+1)) 0:=inferInstance;have hXB:HO wB 58 2 X xn xc (cellsOf xl):=inferInstance;have h6B:HB wB z6 58 #[.slice A n c,v7]:=inferInstance;have hcB:Au (only zr) wy wB:=(inferInstance:Ch (only zr) wy wB).out;have hEB:=Lib.hid (hE9.out.chg hcB (fun y h1 h2 h=>by have h':y=zr:=h;omega));have hCB:Hid (Au (FF z0 zr) w wB):=Lib.hid (hCwz.out.trans hcB (fun _ _ h=> .inr h));have hszB:=hcB.size;have o71:=hEB.out.v.one.2;have hln1:([(⟨.slice A n c,v7,rfl,o71⟩:JY)]:List JY).length =1:=rfl;have kbE:=Sg ⟨.slice A n c,v7,rfl,o71⟩;have oXr:As (An X) zr:=⟨fun⟨ad,e,h⟩=>(hX ad e).2 h⟩;have oX0:As (An X) z0:=⟨fun⟨ad,e,h⟩=>(hX ad e).1 h⟩;have oXk:As (An X) zk:=⟨fun⟨ad,e,h⟩=>by have:=hXl ad e;have:=HWZ.out;omega⟩;have hsB:=hCB.out.size;have oG6:As (LH zr X) z6:=⟨fun h=>by
    rcases h with h|⟨ad,e,h⟩
    ·exact or6.out h
    have:=hXl ad e;omega⟩
   clear hcB hbz hbA hkz hkkz hs5z hE9 hX9 hz6b hCwz stA stB;refine Ah ((LH zr X)) (by kernel_rfl) (fun wd _ _=> ?_);refine YS 0 ?_;refine YS 1 ?_;refine YS 2 ?_;refine YS 3 ?_;refine YS 4 ?_;refine KW 6 ?_;refine wpAnyH_ready (rs:=[5,7]) (by kernel_rfl) (by simp) (AllReadyH.cons rfl (fun K_ hK_=> ?_) (AllReadyH.cons rfl (fun K_ hK_=> ?_) AllReadyH.nil))
   focus
    refine Yq ?_
    (refine WO 69 hc69 ?_)
    refine Yn hK_ ?_;clear hK_ K_;refine Yh 7 fun K_ hK_=> ?_
    (refine BM 72 (kbE _) ?_;intro ze wb _ _ _)
    refine Yn hK_ ?_;clear hK_ K_;refine Yh 8 fun K_ hK_=> ?_
    ((with_reducible apply(Bb (α:=JY)));exact rfl;exact rfl;infer_instance;infer_instance;exact HB.cells inferInstance;exact rfl;exact hln1;omega;(decide);(decide);intro X2 xc2 wN stN hoN hGN hcapN)
    refine Yn hK_ ?_;clear hK_ K_;refine YS 9 ?_;refine YS 10 ?_;refine YS 11 ?_;refine Yh 12 fun K_ hK_=> ?_
    (refine WSj 69 ((HZ69 _).out) ?_;intro wE stE hbE5)
    refine Ym hK_ ?_;clear hK_ K_;refine Yd ?_
   rotate_left 1
   focus
    refine Yq ?_
    (refine BM 72 (kbE _) ?_;intro ze wb _ _ _)
    refine Yn hK_ ?_;clear hK_ K_;refine Yh 5 fun K_ hK_=> ?_
    (refine WO 69 hc69 ?_)
    refine Yn hK_ ?_;clear hK_ K_;refine Yh 8 fun K_ hK_=> ?_
    ((with_reducible apply(Bb (α:=JY)));exact rfl;exact rfl;infer_instance;infer_instance;exact HB.cells inferInstance;exact rfl;exact hln1;omega;(decide);(decide);intro X2 xc2 wN stN hoN hGN hcapN)
    refine Yn hK_ ?_;clear hK_ K_;refine YS 9 ?_;refine YS 10 ?_;refine YS 11 ?_;refine Yh 12 fun K_ hK_=> ?_
    (refine WSj 69 ((HZ69 _).out) ?_;intro wE stE hbE5)
    refine Ym hK_ ?_;clear hK_ K_;refine Yd ?_
   rotate_left 1
   all_goals
    go_wp2_with fail;go_ret;have hwdB:wB.heap.size≤wd.heap.size:=(inferInstance:Ay wB wd).out;have hzrB:zr<wB.heap.size:=hbB.out.lt;have hGNw: ∀ad,X2=some ad→X2=X∨wB.heap.size≤ad.block:=fun ad e=>by
     rcases hGN.out with h9|h9
     ·exact .inl h9
     right;rw[h9] at e;injection e with e
     rw[←e]
     first
      |exact hwdB
      |exact(inferInstance:Ay wB _).out
    have oX2:BW (only zr) X2:=⟨fun ad e h=>by
     have h':ad.block=zr:=h;rcases hGNw ad e with h9|h9
     ·rw[h9] at e;exact(hX ad e).2 h'
     omega⟩
    have hbF:HB wE zr 84 (Bg sd (.pointer (some ⟨z0,0,none⟩)) (.pointer (some ⟨zk,0,none⟩)) f (g+1) v [bt, .slice X2 (xn+1) xc2,t0,t1,s0,s1,xg,lg]).toArray :=HB.row_eqS hbE5 (Sj sd _ _ f (g+1) v _ 1 _);have hkE:AH wE z0 (Ao sd 0) (used+1):=inferInstance;have hkkE:AH wE zk (Ao sd (g+1)) 0:=inferInstance;have hXE:HO wE 58 2 X2 (xn+1) xc2 (cellsOf (xl++[(⟨.slice A n c,v7,rfl,o71⟩:JY)])):=inferInstance;have hcE:Au (LH zr X) wB wE:=(inferInstance:Ch (LH zr X) wB wE).out;have hCF:Au (Xd z0 zr X) w wE:=(hCB.out.mono (T:=Xd z0 zr X) (fun _ _ h=>by rcases h with h|h;exact .inl h;exact .inr (.inl h))).trans hcE (fun _ _ h=>by rcases h with h|h;exact .inr (.inl h);exact .inr (.inr h));have hszE:=hcE.size;have hEE:=hEB.out.chg hcE (fun y h1 _ h=>by
     rcases h with h|⟨ad,e,h⟩
     ·omega
     have:=hXl ad e;omega)
    exact⟨rfl,zk,X2,xc2,⟨.slice A n c,v7,rfl,o71⟩,LO,HI,⟨hCF⟩,hkE,hkkE,hbF,hXE,Lib.hid ⟨fun ad e=>(hGNw ad e).imp (fun h=>h) (fun h=>by omega),HWZ.out,hkl9,hLO7,by omega⟩,Lib.hid hEE⟩
end Go.Proofs.YtjjhceeookpieaaGreat
