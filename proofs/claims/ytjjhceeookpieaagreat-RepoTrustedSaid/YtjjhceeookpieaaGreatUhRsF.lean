/- UhRsF, UhRsG, UhRsH, UhRlI, UhRlJ, UhRsI -/
import Derived.Test.YtjjhceeookpieaaGreatUhZ
import Derived.Test.YtjjhceeookpieaaGreatUhRpC
import Derived.Test.YtjjhceeookpieaaGreatUhQmA
import Derived.Test.YtjjhceeookpieaaGreatUhSnB
import Derived.Test.YtjjhceeookpieaaGreatUhTy
section
set_option maxRecDepth 100000
set_option maxHeartbeats 3200000
open Go Go.RowKit
namespace Go.Proofs.YtjjhceeookpieaaGreat
def Je (pub:Ak) (fn:Value) (er:Int):List Value:=bs pub.l++[fn, .int .i64 er]
theorem Gv (pub:Ak) (fn:Value) (er:Int):(Je pub fn er).toArray.size =34:=by
 show(Je pub fn er).length =34;simp[Je,Am]
theorem Mt (pub:Ak) (fn:Value) (er:Int):((Je pub fn er).toArray.toList.drop 0).take 32=bs pub.l:=by
 show(Je pub fn er).take 32=_;rw[Je,List.take_left' (Kd pub)]
theorem Air (pub:Ak) (fn:Value) (er:Int):Eg (Je pub fn er).toArray.toList 32=some fn:=by
 rw[←Bp];show(bs pub.l++[fn, .int .i64 er])[32]? =_;rw[List.getElem?_append_right (by rw[Kd];exact Nat.le_refl _),Kd];rfl
theorem Xn (pub:Ak) (fn:Value) (er:Int):Eg (Je pub fn er).toArray.toList 33=some (.int .i64 er):=by
 rw[←Bp];show(bs pub.l++[fn, .int .i64 er])[33]? =_;rw[List.getElem?_append_right (by rw[Kd];decide),Kd];rfl
theorem Abq (pub:Ak) (fn:Value) (er e2:Int):(Je pub fn er).toArray.setIfInBounds 33 (.int .i64 e2)=(Je pub fn e2).toArray :=by
 rw[sA]
 congr 1
 show(bs pub.l++[fn, .int .i64 er]).set 33 _=_;rw[List.set_append_right _ _ (by rw[Kd];decide),Kd];rfl
theorem HB.row_eqS {w:World} {g:Nat} {t:TypeId} {cs cs':Array Value} (h:HB w g t cs) (e:cs=cs'):HB w g t cs':=e▸h
theorem Abr (p q:Int) (w:World):(Instr.buildSlice 193 2 #[(0, .int .i64 p),(1, .int .i64 q)]).run Tryz.prog w= .ok (.slice (some ⟨w.heap.size,0,none⟩) 2 2) (w.alloc (.cells #[.int .i64 p, .int .i64 q] 47)):=by kernel_rfl
instance Ak1:AL Tryz.prog 47:=⟨fun _=>by kernel_rfl,fun _=>by kernel_rfl⟩
theorem Si {z:Nat} {w:World} [hz:HB w z 47 #[.int .i64 0, .int .i64 0]]:
    Calls Tryz.prog 58 #[.slice (some ⟨z,0,none⟩) 2 2] w fun e w'=>e= .returned (.int .i64 0)∧w'=w:=by
 have hr:HR w (some ⟨z,0,none⟩) [.int .i64 0, .int .i64 0]:=⟨by simpa using hz.rdL⟩;go_enter Tryz.func58,Tryz.ntmps58;go_wp2_with fail;have hq:((0:Int)!=0)=false:=by decide
 go_loopw [8] (fun iv wr=>∃k:Nat,k≤2∧iv= .int .i64 (k:Int)∧wr=w) (fun iv _=>2 -(intOf iv).toNat)
 case atStart=>exact⟨0,by decide,rfl,rfl⟩
 case round=>
  obtain⟨k,hk,rfl,rfl⟩:=hrel;rcases(show k=0∨k=1∨k=2 by omega) with rfl|rfl|rfl
  ·go_wp2_with (first|(refine GU ?_));exact⟨⟨1,by decide,by first|rfl|trivial,by first|rfl|trivial⟩,by simp[intOf]⟩
  ·go_wp2_with (first|(refine GU ?_));exact⟨⟨2,by decide,by first|rfl|trivial,by first|rfl|trivial⟩,by simp[intOf]⟩
  go_wp2_with fail;go_ret;exact⟨rfl,rfl⟩
instance Ah7:Cl Tryz.prog 94 34:=⟨by kernel_rfl,_,Tryz.underlying94,rfl⟩
instance Ak2:AL Tryz.prog 92:=⟨fun _=>by kernel_rfl,fun _=>by kernel_rfl⟩
theorem Abs (a:Option Addr) (n c:Nat) (b:Option Addr) (m d:Nat) (w:World):(Instr.build 58 #[(0, .slice a n c),(1, .slice b m d)]).run Tryz.prog w= .ok (.agg #[.slice a n c, .slice b m d]) w:=by kernel_rfl
def NJ (w:World) (lo hi:Nat) (m:List UInt8) (P:List Pu) (v0 v1:Value):Prop:=∃(M:Option Addr) (nb cb:Nat) (A:Option Addr) (n c:Nat) (l:List AC),v0= .slice M nb cb∧v1= .slice A n c∧Rd w M (bs m)∧m.length=nb∧nb≤100000∧nb≤cb∧Rd w A (cellsOf l)∧l.length=n∧(n≤100000∧n≤c)∧l.map AC.mv=P∧(∀x∈l,CC w x∧x.l.length≤100000∧x.p.length≤100000)∧(∀ad,M=some ad→lo≤ad.block∧ad.block<hi)∧(∀ad,A=some ad→lo≤ad.block∧ad.block<hi)∧∀x∈l,(∀ad,x.A=some ad→lo≤ad.block∧ad.block<hi)∧∀ad,x.B=some ad→lo≤ad.block∧ad.block<hi
theorem NJ.chg {w w':World} {lo hi:Nat} {m:List UInt8} {P:List Pu} {v0 v1:Value} {S:Nat→Prop} (h:NJ w lo hi m P v0 v1) (c:Au S w w') (hs: ∀y,lo≤y→y<hi→¬S y):NJ w' lo hi m P v0 v1:=by
 obtain⟨M,nb,cb,A,n,c1,l,e0,e1,h1,h2,h3,h3',h4,h5,h6,h7,h8,g1,g2,g3⟩:=h;exact⟨M,nb,cb,A,n,c1,l,e0,e1,h1.chg c (fun _ ad e=>hs _ (g1 ad e).1 (g1 ad e).2),h2,h3,h3',h4.chg c (fun _ ad e=>hs _ (g2 ad e).1 (g2 ad e).2),h5,h6,h7,fun x hx=>⟨⟨(h8 x hx).1.1.chg c (fun _ ad e=>hs _ ((g3 x hx).1 ad e).1 ((g3 x hx).1 ad e).2),(h8 x hx).1.2.chg c (fun _ ad e=>hs _ ((g3 x hx).2 ad e).1 ((g3 x hx).2 ad e).2)⟩,(h8 x hx).2⟩,g1,g2,g3⟩
theorem NJ.v {w:World} {lo hi:Nat} {m:List UInt8} {P:List Pu} {v0 v1:Value} (h:NJ w lo hi m P v0 v1):Vg w m P v0 v1:=by
 obtain⟨M,nb,cb,A,n,c1,l,e0,e1,h1,h2,h3,h3',h4,h5,h6,h7,h8,_⟩:=h;exact⟨M,nb,cb,A,n,c1,l,e0,e1,h1,h2,h3,h4,h5,h6.1,h7,h8⟩
def Mu (O:Nat→Prop) (w:World) (m:List UInt8) (P:List Pu) (v0 v1:Value):Prop:=∃(M:Option Addr) (nb cb:Nat) (A:Option Addr) (n c:Nat) (l:List AC),v0= .slice M nb cb∧v1= .slice A n c∧Rd w M (bs m)∧m.length=nb∧nb≤100000∧nb≤cb∧Rd w A (cellsOf l)∧l.length=n∧(n≤100000∧n≤c)∧l.map AC.mv=P∧(∀x∈l,CC w x∧x.l.length≤100000∧x.p.length≤100000)∧(∀ad,M=some ad→O ad.block)∧(∀ad,A=some ad→O ad.block)∧∀x∈l,(∀ad,x.A=some ad→O ad.block)∧∀ad,x.B=some ad→O ad.block
theorem Mu.chg {w w':World} {O:Nat→Prop} {m:List UInt8} {P:List Pu} {v0 v1:Value} {S:Nat→Prop} (h:Mu O w m P v0 v1) (c:Au S w w') (hs: ∀y,O y→¬S y):Mu O w' m P v0 v1:=by
 obtain⟨M,nb,cb,A,n,c1,l,e0,e1,h1,h2,h3,h3',h4,h5,h6,h7,h8,g1,g2,g3⟩:=h;exact⟨M,nb,cb,A,n,c1,l,e0,e1,h1.chg c (fun _ ad e=>hs _ (g1 ad e)),h2,h3,h3',h4.chg c (fun _ ad e=>hs _ (g2 ad e)),h5,h6,h7,fun x hx=>⟨⟨(h8 x hx).1.1.chg c (fun _ ad e=>hs _ ((g3 x hx).1 ad e)),(h8 x hx).1.2.chg c (fun _ ad e=>hs _ ((g3 x hx).2 ad e))⟩,(h8 x hx).2⟩,g1,g2,g3⟩
theorem Mu.mono {w:World} {O O':Nat→Prop} {m:List UInt8} {P:List Pu} {v0 v1:Value} (h:Mu O w m P v0 v1) (ho: ∀y,O y→O' y):Mu O' w m P v0 v1:=by
 obtain⟨M,nb,cb,A,n,c1,l,e0,e1,h1,h2,h3,h3',h4,h5,h6,h7,h8,g1,g2,g3⟩:=h;exact⟨M,nb,cb,A,n,c1,l,e0,e1,h1,h2,h3,h3',h4,h5,h6,h7,h8,fun ad e=>ho _ (g1 ad e),fun ad e=>ho _ (g2 ad e),fun x hx=>⟨fun ad e=>ho _ ((g3 x hx).1 ad e),fun ad e=>ho _ ((g3 x hx).2 ad e)⟩⟩
theorem Mu.x {w:World} {O:Nat→Prop} {lo hi:Nat} {m:List UInt8} {P:List Pu} {v0 v1:Value} (h:Mu O w m P v0 v1) (ho: ∀y,O y→lo≤y∧y<hi):NJ w lo hi m P v0 v1:=by
 obtain⟨M,nb,cb,A,n,c1,l,e0,e1,h1,h2,h3,h3',h4,h5,h6,h7,h8,g1,g2,g3⟩:=h;exact⟨M,nb,cb,A,n,c1,l,e0,e1,h1,h2,h3,h3',h4,h5,h6,h7,h8,fun ad e=>ho _ (g1 ad e),fun ad e=>ho _ (g2 ad e),fun x hx=>⟨fun ad e=>ho _ ((g3 x hx).1 ad e),fun ad e=>ho _ ((g3 x hx).2 ad e)⟩⟩
theorem NJ.s {w:World} {O:Nat→Prop} {lo hi:Nat} {m:List UInt8} {P:List Pu} {v0 v1:Value} (h:NJ w lo hi m P v0 v1) (ho: ∀y,lo≤y→y<hi→O y):Mu O w m P v0 v1:=by
 obtain⟨M,nb,cb,A,n,c1,l,e0,e1,h1,h2,h3,h3',h4,h5,h6,h7,h8,g1,g2,g3⟩:=h;exact⟨M,nb,cb,A,n,c1,l,e0,e1,h1,h2,h3,h3',h4,h5,h6,h7,h8,fun ad e=>ho _ (g1 ad e).1 (g1 ad e).2,fun ad e=>ho _ (g2 ad e).1 (g2 ad e).2,fun x hx=>⟨fun ad e=>ho _ ((g3 x hx).1 ad e).1 ((g3 x hx).1 ad e).2,fun ad e=>ho _ ((g3 x hx).2 ad e).1 ((g3 x hx).2 ad e).2⟩⟩
theorem Mu.v {w:World} {O:Nat→Prop} {m:List UInt8} {P:List Pu} {v0 v1:Value} (h:Mu O w m P v0 v1):Vg w m P v0 v1:=by
 obtain⟨M,nb,cb,A,n,c1,l,e0,e1,h1,h2,h3,h3',h4,h5,h6,h7,h8,_⟩:=h;exact⟨M,nb,cb,A,n,c1,l,e0,e1,h1,h2,h3,h4,h5,h6.1,h7,h8⟩
def slO (A:Option Addr) (w w':World):Nat→Prop:=fun y=>An A y∨(w.heap.size≤y∧y<w'.heap.size)
def Kf (pub seed:Ak) (used:Int) (m:List UInt8):List Pu:=[(pub,used,Kt seed used m,EN (BF seed) used)]
theorem BT {zs zk:Nat} {pub seed:Ak} {used:Int} {A:Option Addr} {n c:Nat} {m:List UInt8} {w:World} [hs:HB w zs 94 (Je pub (.func (.func 28) #[.pointer (some ⟨zk,0,none⟩)] #[]) 0).toArray] [hk:AH w zk seed used] [hr:HR w A (bs m)] (hm:m.length=n) (hc:n≤c) (hn:n≤100000) (h0:0≤used) (h16:used<16) (hne:zk≠zs) (hA: ∀ad,A=some ad→ad.block≠zk∧ad.block≠zs):
    Calls Tryz.prog 29 #[.pointer (some ⟨zs,0,none⟩), .slice A n c, .int .i64 0] w fun e w'=>∃v1,e= .returned (.agg #[.slice A n c,v1])∧Ag (FF zk zs) w w'∧AH w' zk seed (used+1)∧HB w' zs 94 (Je pub (.func (.func 28) #[.pointer (some ⟨zk,0,none⟩)] #[]) 0).toArray ∧Hid (Mu (slO A w w') w' m (Kf pub seed used m) (.slice A n c) v1):=by
 go_enter Tryz.func29,Tryz.ntmps29;go_wp2_with (first|(refine BM 14 (Abr _ _ _) ?_;intro zb wb _ _ _)|(refine WO 33 (Xn _ _ _) ?_)|(refine BB 6 ?_;intro zo wzo _ _ _));refine Si.mono ?_;rintro e w5 ⟨rfl,rfl⟩;have hzsl:=hs.out.lt;have hzkl:=hk.lt;have hzo:w.heap.size≤zo:=Nat.le_of_eq (inferInstance:AW w zo).eq.symm;have ozs:As (only zs) zk:=⟨hne⟩;have ozk:As (only zk) zs:=⟨fun e=>hne (show zs=zk from e).symm⟩;have oso:As (only zs) zo:=⟨fun e=>by have e':zo=zs:=e;omega⟩;have oko:As (only zk) zo:=⟨fun e=>by have e':zo=zk:=e;omega⟩;have ook:As (only zo) zk:=⟨fun e=>by have e':zk=zo:=e;omega⟩;have oos:As (only zo) zs:=⟨fun e=>by have e':zs=zo:=e;omega⟩;have oAs:Ff (only zs) A (bs m):=⟨fun _ ad e h=>(hA ad e).2 h⟩;have oAk:Ff (only zk) A (bs m):=⟨fun _ ad e h=>(hA ad e).1 h⟩;have oAo:Ff (only zo) A (bs m):=⟨fun hne2 ad e h=>by have h':ad.block=zo:=h;have:=DC hr.out hne2 e;omega⟩;have hs5:HB w5 zs 94 (Je pub (.func (.func 28) #[.pointer (some ⟨zk,0,none⟩)] #[]) 0).toArray :=inferInstance;have hlt33:33<(Je pub (.func (.func 28) #[.pointer (some ⟨zk,0,none⟩)] #[]) 0).toArray.size :=by rw[Gv];decide
 go_wp2_with (first|(refine WO 33 (Xn _ _ _) ?_)|(refine WSk 33 hs5 hlt33 ?_;intro wx stx hwx;have hsx:HB wx zs 94 (Je pub (.func (.func 28) #[.pointer (some ⟨zk,0,none⟩)] #[]) 0).toArray :=HB.row_eqS hwx (Abq _ _ _ _);clear hwx)|(refine SS 32 hsx (Air _ _ _) ?_));have hrx:HR wx A (bs m):=inferInstance;have hox:HB wx zo 58 #[.slice none 0 0, .slice none 0 0]:=inferInstance;have hkx:AH wx zk seed used:=inferInstance;have hCx:Hid (Au (only zs) w wx):=Lib.hid (((Aa (w0:=w) (w:=w5)).chg.mono (T:=only zs) (fun _ _ h=>h.elim)).trans stx.chg (fun _ _ h=>h));have hsx9:w.heap.size≤wx.heap.size:=hCx.out.size;refine(TG (zk:=zk) (seed:=seed) (used:=used) hm hc hn h0 h16).mono ?_;obtain⟨S,hS⟩: ∃S,S=Kt seed used m:=⟨_,rfl⟩;obtain⟨PT,hPT⟩: ∃PT,PT=EN (BF seed) used:=⟨_,rfl⟩;have hSl:S.length=36:=by rw[hS];simp[Kt,Hp]
 have hPl:PT.length≤16:=by rw[hPT];exact Nat.le_trans (Yv _ _) (by rw[CV];exact Nat.le_refl _)
 rw[←hS,←hPT];have HSG:=Lib.hid hS;have HPG:=Lib.hid hPT;clear hS hPT;rintro e w6 ⟨z,A',c',rfl,st6,hk6,nz,nA,hz6,hA6⟩;have hs6:HB w6 zs 94 (Je pub (.func (.func 28) #[.pointer (some ⟨zk,0,none⟩)] #[]) 0).toArray :=inferInstance;have ho6:HB w6 zo 58 #[.slice none 0 0, .slice none 0 0]:=inferInstance;have hr6:HR w6 A (bs m):=inferInstance;have hzz:wx.heap.size≤z:=nz.out ⟨z,0,none⟩ rfl;have hzol:=hox.out.lt;have hsg:=st6.chg.size;have hCx6:Hid (Au (FF zk zs) w w6):=Lib.hid ((hCx.out.mono (T:=FF zk zs) (fun _ _ h=> .inr h)).trans st6.chg (fun _ _ h=> .inl h));have osz:BW (only zs) (some ⟨z,0,none⟩):=⟨fun ad e h=>by injection e with e;subst e;have h':z=zs:=h;omega⟩;have osA:BW (only zs) A':=⟨fun ad e h=>by have h':ad.block=zs:=h;have:=nA.out ad e;omega⟩;have ooz:BW (only zo) (some ⟨z,0,none⟩):=⟨fun ad e h=>by injection e with e;subst e;have h':z=zo:=h;omega⟩;have ooA:BW (only zo) A':=⟨fun ad e h=>by have h':ad.block=zo:=h;have:=nA.out ad e;omega⟩;obtain⟨r,hr0⟩: ∃r:AC,r=⟨pub,used,some ⟨z,0,none⟩,36,S,A',c',PT⟩:=⟨_,rfl⟩;have kbM: ∀w,(Instr.build 139 #[(0, .agg (Aw pub.l)),(1, .agg #[.int .i64 used, .slice (some ⟨z,0,none⟩) 36 36, .slice A' PT.length c'])]).run Tryz.prog w= .ok (.agg (Af.enc r).toArray) w:=fun w=>by
  have h:=Aaw r w;rw[hr0] at h⊢;rw[show(⟨pub,used,some ⟨z,0,none⟩,36,S,A',c',PT⟩:AC).l.length =36 from hSl] at h;exact h
 have kbs1:=Aax r;have HR0:=Lib.hid hr0;clear hsx hrx hox hkx hCx hs5 hr0;go_wp2_with (first|(refine WSj 33 hlt33 ?_;intro wy sty hwy;have hsy:HB wy zs 94 (Je pub (.func (.func 28) #[.pointer (some ⟨zk,0,none⟩)] #[]) 0).toArray :=HB.row_eqS hwy (Abq _ _ _ _);clear hwy)|(refine BB 7 ?_;intro zg wzg _ _ _)|(refine Bt ?_;intro ws _ _));have hzg:w6.heap.size≤zg:=Nat.le_of_eq (inferInstance:AW w6 zg).eq.symm;have osg:As (only zs) zg:=⟨fun e=>by have e':zg=zs:=e;omega⟩;have oog:As (only zo) zg:=⟨fun e=>by have e':zg=zo:=e;omega⟩;have hgy:HB wy zg 132 #[.int .i64 used, .slice (some ⟨z,0,none⟩) 36 36, .slice A' PT.length c']:=inferInstance;have hoy:HB wy zo 58 #[.slice none 0 0, .slice none 0 0]:=inferInstance;have hry:HR wy A (bs m):=inferInstance;have hky:AH wy zk seed (used+1):=inferInstance;have hzy:HO wy 23 32 (some ⟨z,0,none⟩) 36 36 (cellsOf S):=inferInstance;have hAy:HO wy 23 32 A' PT.length c' (cellsOf PT):=inferInstance;have abz:Cn w6 (only zg):=⟨fun x h=>by have h':x=zg:=h;omega⟩;have hc6:Au (only zs) w6 wy:=(inferInstance:Ch (only zs) w6 wy).out;have hCy:Hid (Au (FF zk zs) w wy):=Lib.hid (hCx6.out.trans hc6 (fun _ _ h=> .inr h));have hszy:=hc6.size;clear hs6 ho6 hr6 hk6 hz6 hA6 hCx6 hc6 st6 sty stx;refine Ah ((only zo)) (by kernel_rfl) (fun wd _ _=> ?_);refine YS 0 ?_;refine YS 1 ?_;refine YS 2 ?_;refine YS 3 ?_;refine' tk 4 _ rfl (by kernel_rfl) (by kernel_rfl) (by kernel_rfl) (fun _ _ _ h=>h) (yo (by rfl) fun w' _=> ?_) inferInstance ?_;rotate_left
 ·((apply(Ew (k:=0) (n:=32)));exact rfl;infer_instance;infer_instance;(decide);exact Mt _ _ _;(rw[Am,Ak.len]))
 try simp only[Act.put,sA,sB,sC]
 refine KW 5 ?_;refine YB 6 kbM ?_;refine Yh 7 fun K_ hK_=> ?_
 (refine BM 44 (kbs1 _) ?_;intro zm wb _ _ _)
 refine Yn hK_ ?_;clear hK_ K_;refine YB 8 (Abs _ _ _ _ _ _) ?_;refine Yh 9 fun K_ hK_=> ?_
 (refine Bt ?_;intro ws _ _)
 refine Ym hK_ ?_;clear hK_ K_;refine Yd ?_
 all_goals
  have szd:wy.heap.size≤wd.heap.size:=(inferInstance:Ay wy wd).out;have hzm:wd.heap.size≤zm:=Nat.le_of_eq (inferInstance:AW wd zm).eq.symm;have hzoy:=hoy.out.lt;have oom:As (only zo) zm:=⟨fun e=>by have e':zm=zo:=e;omega⟩;have hmw:HB ws zm 139 (Af.enc r).toArray :=inferInstance;have hkw:AH ws zk seed (used+1):=inferInstance;have hsw:HB ws zs 94 (Je pub (.func (.func 28) #[.pointer (some ⟨zk,0,none⟩)] #[]) 0).toArray :=inferInstance;have hrw:HR ws A (bs m):=inferInstance;have hzw:HO ws 23 32 (some ⟨z,0,none⟩) 36 36 (cellsOf S):=inferInstance;have hAw:HO ws 23 32 A' PT.length c' (cellsOf PT):=inferInstance;have hcw:Au (only zo) wy ws:=(inferInstance:Ch (only zo) wy ws).out;have hCw:Au (FF zk zs) w ws:=hCy.out.trans hcw (fun x hx h=>by have h':x=zo:=h;omega);have hMk:CC ws r∧r.l.length≤100000∧r.p.length≤100000:=by
   rw[HR0.out];exact⟨⟨hzw.out.rd,hAw.out.rd⟩,by show S.length≤_;omega,by show PT.length≤_;omega⟩
  have hmr:Rd ws (some ⟨zm,0,none⟩) (cellsOf [r]):=by
   have h9:=hmw.rdL;have e9:cellsOf [r]=(Af.enc r).toArray.toList :=by simp[cellsOf]
   rw[e9];exact h9
  go_wp2_with fail;have hmvP:[r].map AC.mv=Kf pub seed used m:=by
   rw[HR0.out];unfold Kf;rw[←HSG.out,←HPG.out];rfl
  refine Bo rfl rfl (n:=2) rfl rfl ⟨_,rfl,⟨hCw⟩,hkw,hsw,Lib.hid ⟨A,n,c,some ⟨zm,0,none⟩,1,1,[r],rfl,rfl,hrw.out,hm,hn,hc,hmr,rfl,by decide,hmvP,fun x hx=> ?_,fun ad e=> .inl ⟨ad,e,rfl⟩,fun ad e=> ?_,fun x hx=> ?_⟩⟩
  ·rw[List.mem_singleton.1 hx];exact hMk
  ·injection e with e
   subst e;exact .inr ⟨by show w.heap.size≤zm;omega,hmw.out.lt⟩
  rw[List.mem_singleton.1 hx,HR0.out];refine⟨fun ad e=> ?_,fun ad e=> ?_⟩
  ·have e':some (⟨z,0,none⟩:Addr)=some ad:=e;injection e' with e'
   subst e';exact .inr ⟨by show w.heap.size≤z;omega,hzw.out.lt rfl⟩
  have e':A'=some ad:=e;exact .inr ⟨by have:=nA.out ad e';omega,hAw.out.lt e'⟩
theorem JD {zs zk:Nat} {pub seed:Ak} {used:Int} {A:Option Addr} {n c:Nat} {m:List UInt8} {w:World} [hs:HB w zs 94 (Je pub (.func (.func 28) #[.pointer (some ⟨zk,0,none⟩)] #[]) 0).toArray] [hk:AH w zk seed used] [hr:HR w A (bs m)] (hm:m.length=n) (hc:n≤c) (hn:n≤100000) (h0:0≤used) (h16:used<16) (hne:zk≠zs) (hA: ∀ad,A=some ad→ad.block≠zk∧ad.block≠zs) (lo:Nat) (hlo:lo≤w.heap.size) (hloA: ∀ad,A=some ad→lo≤ad.block∧ad.block<w.heap.size):
    Calls Tryz.prog 29 #[.pointer (some ⟨zs,0,none⟩), .slice A n c, .int .i64 0] w fun e w'=>∃v1,e= .returned (.agg #[.slice A n c,v1])∧Ag (FF zk zs) w w'∧AH w' zk seed (used+1)∧HB w' zs 94 (Je pub (.func (.func 28) #[.pointer (some ⟨zk,0,none⟩)] #[]) 0).toArray ∧Hid (NJ w' lo w'.heap.size m (Kf pub seed used m) (.slice A n c) v1):=by
 refine(BT hm hc hn h0 h16 hne hA).mono ?_;rintro e w' ⟨v1,h1,h2,h3,h4,h5⟩;have hs:=h2.chg.size;exact⟨v1,h1,h2,h3,h4,Lib.hid (h5.out.x (fun y h=>by
  rcases h with⟨ad,e,h⟩|h
  ·have:=hloA ad e;omega
  omega))⟩
end Go.Proofs.YtjjhceeookpieaaGreat
end
section
open Go Go.RowKit
namespace Go.Proofs.YtjjhceeookpieaaGreat
theorem NK (sd:Ak) (p0 p1:Value) (f:Ak) (g v:Int) (tl:List Value):Bg sd p0 p1 f g v tl=(bs sd.l++[p0,p1]++bs f.l++[Value.int .i64 g,Value.int .i64 v])++tl:=by simp[Bg]
theorem Un (sd:Ak) (p0 p1:Value) (f:Ak) (g v:Int):(bs sd.l++[p0,p1]++bs f.l++[Value.int .i64 g,Value.int .i64 v]).length =68:=by simp[Am]
theorem Xo (sd:Ak) (p0 p1:Value) (f:Ak) (g v:Int) (tl:List Value) (i n:Nat) (vs:List Value):(Bg sd p0 p1 f g v tl).toArray.toList.take (68+i)++vs++(Bg sd p0 p1 f g v tl).toArray.toList.drop (68+i+n)=Bg sd p0 p1 f g v (tl.take i++vs++tl.drop (i+n)):=by
 have hl:=Un sd p0 p1 f g v;show(Bg sd p0 p1 f g v tl).take (68+i)++vs++(Bg sd p0 p1 f g v tl).drop (68+i+n)=_;rw[NK,NK];obtain⟨H,hH⟩: ∃H,H=bs sd.l++[p0,p1]++bs f.l++[Value.int .i64 g,Value.int .i64 v]:=⟨_,rfl⟩;rw[←hH] at hl⊢;rw[List.take_append,List.take_of_length_le (by omega),hl,Nat.add_sub_cancel_left,List.drop_append,List.drop_of_length_le (by omega),hl,show 68+i+n -68=i+n by omega,List.nil_append];simp[List.append_assoc]
theorem Sj (sd:Ak) (p0 p1:Value) (f:Ak) (g v:Int) (tl:List Value) (i:Nat) (y:Value):(Bg sd p0 p1 f g v tl).toArray.setIfInBounds (68+i) y=(Bg sd p0 p1 f g v (tl.set i y)).toArray :=by
 have hl:=Un sd p0 p1 f g v;rw[sA]
 congr 1
 rw[NK,NK,List.set_append_right _ _ (by rw[hl];omega),hl,Nat.add_sub_cancel_left]
theorem Abt (sd:Ak) (p0 p1:Value) (f:Ak) (g v v2:Int) (tl:List Value):(Bg sd p0 p1 f g v tl).toArray.setIfInBounds 67 (.int .i64 v2)=(Bg sd p0 p1 f g v2 tl).toArray :=by
 rw[sA]
 congr 1
 have e: ∀x,Bg sd p0 p1 f g x tl=(bs sd.l++[p0,p1]++bs f.l++[Value.int .i64 g])++(Value.int .i64 x::tl):=fun x=>by simp[Bg]
 have hl:(bs sd.l++[p0,p1]++bs f.l++[Value.int .i64 g]).length =67:=by simp[Am]
 rw[e,e,List.set_append_right _ _ (by rw[hl];exact Nat.le_refl _),hl];rfl
theorem Ais (sd:Ak) (p0 p1:Value) (f:Ak) (g v:Int) (tl:List Value):Eg (Bg sd p0 p1 f g v tl).toArray.toList 67=some (.int .i64 v):=by
 rw[←Bp];show(Bg sd p0 p1 f g v tl)[67]? =_;have e:Bg sd p0 p1 f g v tl=(bs sd.l++[p0,p1]++bs f.l++[Value.int .i64 g])++(Value.int .i64 v::tl):=by simp[Bg]
 have hl:(bs sd.l++[p0,p1]++bs f.l++[Value.int .i64 g]).length =67:=by simp[Am]
 rw[e,List.getElem?_append_right (by rw[hl];exact Nat.le_refl _),hl];rfl
theorem Sk (sd:Ak) (p0 p1:Value) (f:Ak) (g v:Int) (tl:List Value):Eg (Bg sd p0 p1 f g v tl).toArray.toList 33=some p1:=by
 rw[←Bp];exact LJ sd p0 p1 f g v tl 1
theorem Ni (sd:Ak) (p0 p1:Value) (f:Ak) (g v:Int) (tl:List Value) (h:tl.length=8):(Bg sd p0 p1 f g v tl).toArray.size =76:=NI sd p0 p1 f g v tl h
theorem JZ (pub:Ak) (zk:Nat) (w:World):(Instr.build 94 #[(0, .agg (Aw pub.l)),(1, .func (.func 28) #[.pointer (some ⟨zk,0,none⟩)] #[])]).run Tryz.prog w= .ok (.agg (Je pub (.func (.func 28) #[.pointer (some ⟨zk,0,none⟩)] #[]) 0).toArray) w:=by
 refine Cu Tryz.underlying94 (zv:= .agg (Je Aq .nilFunc 0).toArray) (fun _=>by kernel_rfl) (places:=#[(0,32),(32,1),(33,1)]) (fun _=>by kernel_rfl) ?_ w;show Instr.fill _ (Je Aq .nilFunc 0).toArray [(0, .agg (Aw pub.l)),(1, .func (.func 28) #[.pointer (some ⟨zk,0,none⟩)] #[])]=_;rw[AZ _ _ 0 _ _ (off:=0) (size:=32) rfl (by show(Aw pub.l).size =32;exact pub.size) (by rw[Gv];decide)];rw[show GH 0 (Value.agg (Aw pub.l)).cells (Je Aq .nilFunc 0).toArray =(Je pub .nilFunc 0).toArray from DA 0 (Aw pub.l) [] (bs Aq.l) _ rfl (by rw[Am,Aq.len];exact pub.size.symm)];rw[AZ _ _ 1 _ _ (off:=32) (size:=1) rfl rfl (by rw[Gv];decide)];rw[show GH 32 (Value.func (.func 28) #[.pointer (some ⟨zk,0,none⟩)] #[]).cells (Je pub .nilFunc 0).toArray =(Je pub (.func (.func 28) #[.pointer (some ⟨zk,0,none⟩)] #[]) 0).toArray from DA 32 _ (bs pub.l) [_] _ (Kd pub) rfl];rfl
theorem Abu (v:Int) (w:World):(Instr.build 101 #[(0, .string ⟨#[116,111,112]⟩),(1, .int .i64 v)]).run Tryz.prog w= .ok (.agg (Af.enc (⟨CF,v⟩:AE)).toArray) w:=by kernel_rfl
theorem Abv (p:AE) (w:World):(Instr.buildSlice 37 1 #[(0, .agg (Af.enc p).toArray)]).run Tryz.prog w= .ok (.slice (some ⟨w.heap.size,0,none⟩) 1 1) (w.alloc (.cells (cellsOf [p]).toArray 101)):=by kernel_rfl
theorem Zj (v e:Int) (A:Option Addr) (n c:Nat) (w:World):(Instr.build 39 #[(0, .int .i64 v),(1, .int .i64 e),(2, .slice A n c)]).run Tryz.prog w= .ok (.agg #[.int .i64 v, .int .i64 e, .slice A n c]) w:=by kernel_rfl
theorem Abw (v e s:Int) (h:Ak) (w:World):(Instr.build 36 #[(0, .int .i64 v),(1, .int .i64 e),(2, .int .i64 s),(3, .agg (Aw h.l))]).run Tryz.prog w= .ok (.agg (BI v e s h).toArray) w:=by
 refine Cu Tryz.underlying36 (zv:= .agg (BI 0 0 0 Aq).toArray) (fun _=>by kernel_rfl) (places:=#[(0,1),(1,1),(2,1),(3,32)]) (fun _=>by kernel_rfl) ?_ w;have hl: ∀v e s h,(BI v e s h).toArray.size =35:=fun v e s h=>by show(BI v e s h).length =35;simp[BI,Am]
 show Instr.fill _ (BI 0 0 0 Aq).toArray [(0, .int .i64 v),(1, .int .i64 e),(2, .int .i64 s),(3, .agg (Aw h.l))]=_;rw[AZ _ _ 0 _ _ (off:=0) (size:=1) rfl rfl (by rw[hl];decide)];rw[show GH 0 (Value.int .i64 v).cells (BI 0 0 0 Aq).toArray =(BI v 0 0 Aq).toArray from DA 0 #[.int .i64 v] [] [.int .i64 0] _ rfl rfl];rw[AZ _ _ 1 _ _ (off:=1) (size:=1) rfl rfl (by rw[hl];decide)];rw[show GH 1 (Value.int .i64 e).cells (BI v 0 0 Aq).toArray =(BI v e 0 Aq).toArray from DA 1 #[.int .i64 e] [.int .i64 v] [.int .i64 0] _ rfl rfl];rw[AZ _ _ 2 _ _ (off:=2) (size:=1) rfl rfl (by rw[hl];decide)];rw[show GH 2 (Value.int .i64 s).cells (BI v e 0 Aq).toArray =(BI v e s Aq).toArray from DA 2 #[.int .i64 s] [.int .i64 v, .int .i64 e] [.int .i64 0] _ rfl rfl];rw[AZ _ _ 3 _ _ (off:=3) (size:=32) rfl (by show(Aw h.l).size =32;exact h.size) (by rw[hl];decide)];have hq:=DA 3 (Aw h.l) [.int .i64 v, .int .i64 e, .int .i64 s] (bs Aq.l) [] rfl (by rw[Am,Aq.len];exact h.size.symm);rw[List.append_nil,List.append_nil] at hq;rw[show GH 3 (Value.agg (Aw h.l)).cells (BI v e s Aq).toArray =(BI v e s h).toArray from hq];rfl
end Go.Proofs.YtjjhceeookpieaaGreat
end
section
open Go Go.RowKit
namespace Go.Proofs.YtjjhceeookpieaaGreat
instance Ak3:Eb Tryz.prog 94 (Je Aq .nilFunc 0).toArray :=⟨.agg (Je Aq .nilFunc 0).toArray,fun _=>by kernel_rfl,rfl⟩
theorem NJ.body {w:World} {lo hi:Nat} {m:List UInt8} {P:List Pu} {A:Option Addr} {n c:Nat} {v1:Value} (h:NJ w lo hi m P (.slice A n c) v1):Rd w A (bs m)∧m.length=n∧n≤c∧n≤100000:=by
 obtain⟨M,nb,cb,A,n,c1,l,e0,e1,h1,h2,h3,h3',_⟩:=h;injection e0 with q1 q2 q3
 subst q1 q2 q3;exact⟨h1,h2,h3',h3⟩
theorem DW (a b:Value) (h1:a.oneCell'=true) (h2:b.oneCell'=true):(#[a,b]:Array Value).all (·.oneCell')=true:=by
 rw[List.all_toArray,List.all_eq_true];intro u hu;simp only[List.mem_cons,List.not_mem_nil,or_false] at hu;rcases hu with rfl|rfl<;>assumption
theorem OV {w:World} {e:TypeId} {s n c:Nat} {A:Option Addr} {xs:List Value} (h:Cm w e s A n c xs):n≤c:=by
 rcases h.form with⟨_,h1,h2,_⟩|⟨_,_,_,_,h1,_⟩<;>omega
theorem Sl (pub:Ak) (zk:Nat) (er:Int):(Je pub (.func (.func 28) #[.pointer (some ⟨zk,0,none⟩)] #[]) er).toArray.all (·.oneCell')=true:=by
 rw[List.all_toArray,List.all_eq_true];intro u hu;rcases List.mem_append.1 hu with h|h
 ·exact Ei pub.l u h
 simp only[List.mem_cons,List.not_mem_nil,or_false] at h;rcases h with rfl|rfl<;>rfl
def Am6 (sd f seed:Ak) (p0:Value) (g v:Int) (xr:Value) (C:Option Addr) (cn cc:Nat) (B:Option Addr) (d:Nat) (zr zk:Nat) (used:Int) (w w':World):Prop:=
 ∃a b c d2 zE,∃(ev:JY) (m1 m2 m3:List UInt8) (P1 P2 P3:List Pu),Ag (FF zk zr) w w'∧AH w' zk seed (used+3)∧
     HB w' zr 84 (Bg sd p0 (.pointer (some ⟨zk,0,none⟩)) f g (v+1) [.slice B 0 d,xr,a,b,c,d2, .slice (some ⟨zE,0,none⟩) 1 1, .slice C cn cc]).toArray ∧Hid (Vg w' m1 P1 a b∧Vg w' m2 P2 c d2∧Vg w' m3 P3 ev.v0 ev.v1)∧HR w' (some ⟨zE,0,none⟩) (cellsOf [ev])
end Go.Proofs.YtjjhceeookpieaaGreat
end
section
set_option maxRecDepth 100000
set_option maxHeartbeats 6400000
open Go Go.RowKit
namespace Go.Proofs.YtjjhceeookpieaaGreat
def Xe (lo hi:Nat) (x:AC):Prop:=(∀ad,x.A=some ad→lo≤ad.block∧ad.block<hi)∧∀ad,x.B=some ad→lo≤ad.block∧ad.block<hi
theorem Xe.wide {lo hi hi2:Nat} {x:AC} (h:Xe lo hi x) (hh:hi≤hi2):Xe lo hi2 x:=⟨fun ad e=>⟨(h.1 ad e).1,Nat.lt_of_lt_of_le (h.1 ad e).2 hh⟩,fun ad e=>⟨(h.2 ad e).1,Nat.lt_of_lt_of_le (h.2 ad e).2 hh⟩⟩
theorem Ab1 (L:List AC) (k i:Nat) (r:AC) (h: ¬i=k):gt (L.set k r) i=gt L i:=by
 unfold gt;rw[List.getD_eq_getElem?_getD,List.getD_eq_getElem?_getD,List.getElem?_set,if_neg (fun e=>h e.symm)]
theorem QN {w:World} {e:TypeId} {s n c:Nat} {A:Option Addr} {xs:List Value} (h:Cm w e s A n c xs):n≤c:=by
 rcases h.form with⟨_,h1,h2,_⟩|⟨_,_,_,_,h1,_⟩<;>omega
theorem IH {m:List UInt8} {P:List Pu} {v0 v1:Value} {w:World} (h:Vg w m P v0 v1):
    Calls Tryz.prog 40 #[.agg #[v0,v1]] w fun e w'=>∃u0 u1,e= .returned (.agg #[u0,u1])∧Ag Ab w w'∧Hid (NJ w' w.heap.size w'.heap.size m P u0 u1):=by
 obtain⟨M,nb,cb,A,n,c,l,rfl,rfl,h1,h2,h3,h4,h5,h6,h7,h8⟩:=h;have HM:=Lib.hid h1;have HA:=Lib.hid h4;have H8:=Lib.hid h8;have H7:=Lib.hid h7;have H2:=Lib.hid h2;have H5:=Lib.hid h5;clear h1 h4 h8 h7 h2 h5;go_enter Tryz.func40,Tryz.ntmps40;go_wp2_with (first|(refine Bv 1 ?_;intro ze wze _ _ _)|(refine BB 2 ?_;intro zo wzo _ _ _));have hze:w.heap.size≤ze:=Nat.le_of_eq (inferInstance:AW w ze).eq.symm;have hB:HB wzo ze 58 #[.slice M nb cb, .slice A n c]:=inferInstance;have hO:HB wzo zo 58 #[.slice none 0 0, .slice none 0 0]:=inferInstance;have hzl:=hB.out.lt;have hol:=hO.out.lt;have hMr:HR wzo M (bs m):=⟨HM.out.chg (Aa (w0:=w) (w:=wzo)).chg (fun _ _ _ h=>h)⟩;have hAr:HR wzo A (cellsOf l):=⟨HA.out.chg (Aa (w0:=w) (w:=wzo)).chg (fun _ _ _ h=>h)⟩;have nwo:Nw w wzo:=⟨(Aa (w0:=w) (w:=wzo)).chg⟩;have h2:=H2.out;have h5:=H5.out;refine Ah ((only ze)) (by kernel_rfl) (fun wd _ _=> ?_);refine YS 0 ?_;refine YS 3 ?_;refine wpAnyH_ready (rs:=[1,4]) (by kernel_rfl) (by simp) (AllReadyH.cons rfl (fun K_ hK_=> ?_) (AllReadyH.cons rfl (fun K_ hK_=> ?_) AllReadyH.nil))
 focus
  refine Yq ?_
  ((with_reducible apply Ac);exact rfl;infer_instance;(first|(exact rfl)|(exact tg_hw _)|(exact tg_ctr _)|(exact tg_ecu _)|(exact srch_who)|exact srch_fd))
  refine Yn hK_ ?_;clear hK_ K_;refine wpAnyH_ready (rs:=[2,4]) (by kernel_rfl) (by simp) (AllReadyH.cons rfl (fun K_ hK_=> ?_) (AllReadyH.cons rfl (fun K_ hK_=> ?_) AllReadyH.nil))
  focus
   go_simp;refine(Hv h2 (by omega)).mono ?_;rintro e w5 ⟨M',cb',rfl,st5,hM5,nM5⟩;refine Yz hK_ ?_;clear hK_ K_;refine Yh 4 fun K_ hK_=> ?_
   ((with_reducible apply Ac);exact rfl;infer_instance;(first|(exact rfl)|(exact tg_hw _)|(exact tg_ctr _)|(exact tg_ecu _)|(exact srch_who)|exact srch_fd))
   refine Yn hK_ ?_;clear hK_ K_;refine YS 6 ?_;refine Yg 5 fun K_ hK_=> ?_
   go_simp;refine(Hw h5 (by omega)).mono ?_;rintro e w6 ⟨A',c',rfl,st6,hA6,nA6⟩;refine Yz hK_ ?_;clear hK_ K_;refine Yh 7 fun K_ hK_=> ?_
   (refine KZ ?_;intro ws _ _)
   refine Ym hK_ ?_;clear hK_ K_;refine YS 8 ?_;refine Yh 9 fun K_ hK_=> ?_
   (refine KZ ?_;intro ws _ _)
   refine Ym hK_ ?_;clear hK_ K_;refine Yd ?_
  rotate_left 1
  focus
   refine Yq ?_
   ((with_reducible apply Ac);exact rfl;infer_instance;(first|(exact rfl)|(exact tg_hw _)|(exact tg_ctr _)|(exact tg_ecu _)|(exact srch_who)|exact srch_fd))
   refine Yn hK_ ?_;clear hK_ K_;refine Yg 2 fun K_ hK_=> ?_
   go_simp;refine(Hv h2 (by omega)).mono ?_;rintro e w5 ⟨M',cb',rfl,st5,hM5,nM5⟩;refine Yz hK_ ?_;clear hK_ K_;refine YS 6 ?_;refine Yg 5 fun K_ hK_=> ?_
   go_simp;refine(Hw h5 (by omega)).mono ?_;rintro e w6 ⟨A',c',rfl,st6,hA6,nA6⟩;refine Yz hK_ ?_;clear hK_ K_;refine Yh 7 fun K_ hK_=> ?_
   (refine KZ ?_;intro ws _ _)
   refine Ym hK_ ?_;clear hK_ K_;refine YS 8 ?_;refine Yh 9 fun K_ hK_=> ?_
   (refine KZ ?_;intro ws _ _)
   refine Ym hK_ ?_;clear hK_ K_;refine Yd ?_
  rotate_left 1
 rotate_left 2
 focus
  refine Yq ?_
  ((with_reducible apply Ac);exact rfl;infer_instance;(first|(exact rfl)|(exact tg_hw _)|(exact tg_ctr _)|(exact tg_ecu _)|(exact srch_who)|exact srch_fd))
  refine Yn hK_ ?_;clear hK_ K_;refine Yh 1 fun K_ hK_=> ?_
  ((with_reducible apply Ac);exact rfl;infer_instance;(first|(exact rfl)|(exact tg_hw _)|(exact tg_ctr _)|(exact tg_ecu _)|(exact srch_who)|exact srch_fd))
  refine Yn hK_ ?_;clear hK_ K_;refine Yg 2 fun K_ hK_=> ?_
  go_simp;refine(Hv h2 (by omega)).mono ?_;rintro e w5 ⟨M',cb',rfl,st5,hM5,nM5⟩;refine Yz hK_ ?_;clear hK_ K_;refine YS 6 ?_;refine Yg 5 fun K_ hK_=> ?_
  go_simp;refine(Hw h5 (by omega)).mono ?_;rintro e w6 ⟨A',c',rfl,st6,hA6,nA6⟩;refine Yz hK_ ?_;clear hK_ K_;refine Yh 7 fun K_ hK_=> ?_
  (refine KZ ?_;intro ws _ _)
  refine Ym hK_ ?_;clear hK_ K_;refine YS 8 ?_;refine Yh 9 fun K_ hK_=> ?_
  (refine KZ ?_;intro ws _ _)
  refine Ym hK_ ?_;clear hK_ K_;refine Yd ?_
 rotate_left 1
 all_goals
  obtain⟨wa,hwa⟩: ∃x:World,x=ws:=⟨_,rfl⟩;subst hwa;have hBa:HB wa ze 58 #[.slice M' nb cb', .slice A' n c']:=inferInstance;have hOa:HB wa zo 58 #[.slice none 0 0, .slice none 0 0]:=inferInstance;have hAa:HO wa 139 35 A' n c' (cellsOf l):=inferInstance;have hMa:HR wa M' (bs m):=inferInstance;have nwa:Nw w wa:=inferInstance;have szd:wzo.heap.size≤wd.heap.size:=(inferInstance:Ay wzo wd).out;have sz5:wd.heap.size≤w5.heap.size:=st5.chg.size;have hAn: ∀ad,A'=some ad→ad.block≠ze∧ad.block≠zo∧w.heap.size≤ad.block∧(∀bd,M'=some bd→bd.block≠ad.block):=fun ad e=>by
   have h9:=nA6.out ad e;refine⟨by omega,by omega,by omega,fun bd e2 h=> ?_⟩;have:=hM5.out.lt e2;omega
  have HAN:=Lib.hid hAn;have oze:As (An A') ze:=⟨fun⟨ad,e,h⟩=>(HAN.out ad e).1 h⟩;have ozo:As (An A') zo:=⟨fun⟨ad,e,h⟩=>(HAN.out ad e).2.1 h⟩;have oM:BW (An A') M':=⟨fun bd e ⟨ad,e2,h⟩=>(HAN.out ad e2).2.2.2 bd e h.symm⟩;have abA:Cn w (An A'):=⟨fun x ⟨ad,e,h⟩=>by have:=(HAN.out ad e).2.2.1;omega⟩;have hzow0:w.heap.size≤zo:=by have:=(inferInstance:AW wze zo).eq;have:=(inferInstance:Ay w wze).out;omega
  have hOk:Hid (∀x∈l,Abp wa (LH zo A') x):=Lib.hid (fun x hx=>by
   obtain⟨q1,q2,q3⟩:=H8.out x hx;refine⟨⟨q1.1.chg nwa.out (fun _ _ _ h=>h),q1.2.chg nwa.out (fun _ _ _ h=>h)⟩,fun ad e hne h=> ?_,fun ad e hne h=> ?_,q2,q3⟩
   ·have:=DC q1.1 hne e;rcases h with h|⟨bd,e2,h⟩
    ·omega
    have:=(HAN.out bd e2).2.2.1;omega
   have:=DC q1.2 hne e;rcases h with h|⟨bd,e2,h⟩
   ·omega
   have:=(HAN.out bd e2).2.2.1;omega)
  have hmv:Hid (l.map AC.mv=P):=H7;have hln:l.length=n:=H5.out;have hn9:n≤9223372036854775807:=by omega
  have hMn: ∀ad,M'=some ad→ad.block≠zo:=fun ad e=>by have:=nM5.out ad e;omega
  have hzoa:zo<wa.heap.size:=hOa.out.lt;have HMN:Hid (∀ad,M'=some ad→w.heap.size≤ad.block∧ad.block<wa.heap.size):=Lib.hid (fun ad e=>⟨by have:=nM5.out ad e;omega,Nat.lt_of_lt_of_le (hM5.out.lt e) (inferInstance:Ay w5 wa).out⟩);have hcapM:nb≤cb':=QN hM5.out;clear hM5 nM5 hA6 nA6 hAn st5 st6 hMr hAr hB hO nwo szd sz5 h5 hze hzl hol;go_wp2_with (first|((with_reducible apply Ac);exact rfl;infer_instance;(first|(exact rfl)|(exact tg_hw _)|(exact tg_ctr _)|(exact tg_ecu _)|(exact srch_who)|exact srch_fd)));go_loopw [16] (fun iv wr=>∃(k:Nat) (L:List AC),k≤n∧iv= .int .i64 (k:Int)∧L.length=n∧Nw w wr∧HB wr ze 58 #[.slice M' nb cb', .slice A' n c']∧HB wr zo 58 #[.slice none 0 0, .slice none 0 0]∧HO wr 139 35 A' n c' (cellsOf L)∧HR wr M' (bs m)∧Hid (L.map AC.mv=P)∧Hid (∀x∈L,Abp wr (LH zo A') x)∧Hid (wa.heap.size≤wr.heap.size∧∀i,i<k→Xe w.heap.size wr.heap.size (gt L i))) (fun iv _=>n -(intOf iv).toNat)
  case atStart=>exact⟨0,l,Nat.zero_le _,rfl,hln,nwa,hBa,hOa,hAa,hMa,hmv,hOk,Lib.hid ⟨Nat.le_refl _,fun i h=>absurd h (Nat.not_lt_zero _)⟩⟩
  case round=>
   clear hln nwa hBa hOa hAa hMa hmv hOk;obtain⟨k,L,hk,rfl,hLn,nwr,hE,hZ,hL,hMM,hmv,hOk,HNEW⟩:=hrel;have hrL:HR wr A' (cellsOf L):=⟨hL.out.rd⟩;by_cases hlt:k<n
   ·have hltI:(k:Int)<n:=by omega
    have hkl:k<L.length:=by omega
    have hszk:(Af.enc (gt L k)).toArray.size =35:=Af.len _;have honk:=AY (gt L k);go_wp2_with (first|(refine BB 4 ?_;intro z4 wz4 _ _ _)|(refine Bt ?_;intro ws _ _)|(refine Ja AC 56 ?_)|(refine Rk AC 139 ?_));obtain⟨wq,hwq⟩: ∃x:World,x=ws:=⟨_,rfl⟩;subst hwq;obtain⟨x,hx⟩: ∃x,x=gt L k:=⟨_,rfl⟩;have hmem:x∈L:=by rw[hx];exact BD L k hkl
    have h4q:HB wq z4 139 (Af.enc x).toArray :=by rw[hx];infer_instance
    have hcq:Au Ab wr wq:=(Aa (w0:=wr) (w:=wq)).chg;have nwq:Nw w wq:=⟨nwr.out.trans hcq (fun _ _ h=>h)⟩;have hxo:=(hOk.out x hmem).chg hcq (fun _ h=>h.elim);have hxA:HR wq x.A (cellsOf x.l):=⟨hxo.1.1⟩;have hxB:HR wq x.B (cellsOf x.p):=⟨hxo.1.2⟩;have hxl:=hxo.2.2.2.1;have hxp:=hxo.2.2.2.2;have hz4:wr.heap.size≤z4:=Nat.le_of_eq (inferInstance:AW wr z4).eq.symm;have hAl: ∀ad,A'=some ad→ad.block<wr.heap.size:=fun ad e=>hL.out.lt e
    have o4:As (An A') z4:=⟨fun⟨ad,e,h⟩=>by have:=hAl ad e;omega⟩;have oxA:Ff (An A') x.A (cellsOf x.l):=⟨fun hne ad e h=>hxo.2.1 ad e hne (.inr h)⟩;have oxB:Ff (An A') x.B (cellsOf x.p):=⟨fun hne ad e h=>hxo.2.2.1 ad e hne (.inr h)⟩;have hEq:HB wq ze 58 #[.slice M' nb cb', .slice A' n c']:=inferInstance;have hZq:HB wq zo 58 #[.slice none 0 0, .slice none 0 0]:=inferInstance;have hLq:HO wq 139 35 A' n c' (cellsOf L):=inferInstance;have hMq:HR wq M' (bs m):=inferInstance;have hszq:=hcq.size;have HX:=Lib.hid hx;have HOK:=hOk;have HMV:=hmv;have HCQ:=Lib.hid hcq;clear hE hZ hL hMM hOk hmv hrL hxo hszk honk hcq hx hmem;have nwr9:=nwr;clear nwr;refine Ah ((An A')) (by kernel_rfl) (fun wd _ _=> ?_);refine YS 0 ?_;refine' tk 1 _ rfl (by kernel_rfl) (by kernel_rfl) (by kernel_rfl) (fun _ _ _ h=>h) (yo (by rfl) fun w' _=> ?_) inferInstance ?_;rotate_left
    ·((apply Ai);exact rfl;infer_instance;infer_instance;(first|(exact rfl)|(exact tg_hw _)|(exact tg_ctr _)|(exact tg_ecu _)|(exact srch_who)|exact srch_fd))
    try simp only[Act.put,sA,sB,sC]
    refine YS 2 ?_;refine YS 3 ?_;refine' tk 4 _ rfl (by kernel_rfl) (by kernel_rfl) (by kernel_rfl) (fun _ _ _ h=>h) (yo (by rfl) fun w' _=> ?_) inferInstance ?_;rotate_left
    ·((apply Ai);exact rfl;infer_instance;infer_instance;(first|(exact rfl)|(exact tg_hw _)|(exact tg_ctr _)|(exact tg_ecu _)|(exact srch_who)|exact srch_fd))
    try simp only[Act.put,sA,sB,sC]
    refine YS 5 ?_;refine YS 6 ?_;refine YS 7 ?_;refine IS 8 33 (Ws _) ?_;refine YS 10 ?_;refine YS 11 ?_;refine IS 12 34 (Abm _) ?_;refine Yg 9 fun K_ hK_=> ?_
    go_simp;refine(Ky (l:=x.l) rfl (by omega)).mono ?_;rintro e w5 ⟨A5,c5,rfl,st5,hA5,nA5⟩;refine Yz hK_ ?_;clear hK_ K_;refine Yg 13 fun K_ hK_=> ?_
    go_simp;refine(Ky (l:=x.p) rfl (by omega)).mono ?_;rintro e w6 ⟨A6,c6,rfl,st6,hA6,nA6⟩;have hL6:HO w6 139 35 A' n c' (cellsOf L):=inferInstance;have HE1:Hid (Af.enc (x.setC A5 c5)=(Af.enc (gt L k)).take 33++[.slice A5 x.l.length c5]++(Af.enc (gt L k)).drop (33+1)):=Lib.hid (by rw[←HX.out];exact Abn x A5 c5);have HE2:Hid (Af.enc ((x.setC A5 c5).setB A6 c6)=(Af.enc (gt (L.set k (x.setC A5 c5)) k)).take 34++[.slice A6 x.p.length c6]++(Af.enc (gt (L.set k (x.setC A5 c5)) k)).drop (34+1)):=Lib.hid (by rw[Xl _ _ _ hkl];exact Abo (x.setC A5 c5) A6 c6);have hkl2:k<(L.set k (x.setC A5 c5)).length :=by rw[List.length_set];exact hkl
    refine Yz hK_ ?_;clear hK_ K_;refine Yh 14 fun K_ hK_=> ?_
    (refine Ja AC 56 ?_)
    refine Yn hK_ ?_;clear hK_ K_;refine Yh 15 fun K_ hK_=> ?_
    (refine SX 139 Tryz.underlying139 ?_)
    refine Yn hK_ ?_;clear hK_ K_;refine Yh 16 fun K_ hK_=> ?_
    (refine SX 132 Tryz.underlying132 ?_)
    refine Yn hK_ ?_;clear hK_ K_;refine Yh 17 fun K_ hK_=> ?_
    ((with_reducible apply(Ob (α:=AC) (k:=k) (j:=33) (s:=35)));exact rfl;exact rfl;exact hL6;infer_instance;exact rfl;exact rfl;exact hkl;(decide);exact HE1.out;intro wx stx hax)
    refine Ym hK_ ?_;clear hK_ K_;refine Yh 18 fun K_ hK_=> ?_
    (refine Ja AC 56 ?_)
    refine Yn hK_ ?_;clear hK_ K_;refine Yh 19 fun K_ hK_=> ?_
    (refine SX 139 Tryz.underlying139 ?_)
    refine Yn hK_ ?_;clear hK_ K_;refine Yh 20 fun K_ hK_=> ?_
    (refine SX 132 Tryz.underlying132 ?_)
    refine Yn hK_ ?_;clear hK_ K_;refine Yh 21 fun K_ hK_=> ?_
    ((with_reducible apply(Ob (α:=AC) (k:=k) (j:=34) (s:=35)));exact rfl;exact rfl;exact hax;infer_instance;exact rfl;exact rfl;exact hkl2;(decide);exact HE2.out;intro wy sty hay)
    refine Ym hK_ ?_;clear hK_ K_;refine Yd ?_
    all_goals
     have szw:wq.heap.size≤wd.heap.size:=(inferInstance:Ay wq wd).out;have sz5:wd.heap.size≤w5.heap.size:=st5.chg.size;have hzoq:zo<wq.heap.size:=hZq.out.lt;have o5:BW (An A') A5:=⟨fun ad e ⟨bd,e2,h⟩=>by have:=nA5.out ad e;have:=hAl bd e2;omega⟩;have o6:BW (An A') A6:=⟨fun ad e ⟨bd,e2,h⟩=>by have:=nA6.out ad e;have:=hAl bd e2;omega⟩;have hA5y:HO wy 23 32 A5 x.l.length c5 (cellsOf x.l):=inferInstance;have hA6y:HO wy 23 32 A6 x.p.length c6 (cellsOf x.p):=inferInstance;have hcA:Au (An A') wq wy:=(inferInstance:Ch (An A') wq wy).out;have nwy:Nw w wy:=⟨nwq.out.trans hcA (fun y hy h=>abA.out y h|>fun h2=>by omega)⟩;have hEy:HB wy ze 58 #[.slice M' nb cb', .slice A' n c']:=inferInstance;have hZy:HB wy zo 58 #[.slice none 0 0, .slice none 0 0]:=inferInstance;have hMy:HR wy M' (bs m):=⟨hMq.out.chg hcA (fun _ ad e h=>oM.out ad e h)⟩;go_wp2_with fail;refine⟨⟨k+1,(L.set k (x.setC A5 c5)).set k ((x.setC A5 c5).setB A6 c6),by omega,by go_num,by rw[List.length_set,List.length_set];exact hLn,nwy,hEy,hZy,hay,hMy,Lib.hid ?_,Lib.hid ?_,Lib.hid ⟨?_, ?_⟩⟩,by simp[intOf];omega⟩
     ·rw[List.set_set,map_set AC.mv L k _ hkl (by rw[←HX.out];rfl)];exact HMV.out
     ·rw[List.set_set];intro y hy;rcases List.mem_or_eq_of_mem_set hy with h|h
      ·exact((HOK.out y h).chg HCQ.out (fun _ h=>h.elim)).chg hcA (fun _ h=> .inr h)
      rw[h];refine⟨⟨hA5y.out.rd,hA6y.out.rd⟩,fun ad e _ h=> ?_,fun ad e _ h=> ?_,hxl,hxp⟩
      ·rcases h with h|h
       ·have:=nA5.out ad e;omega
       exact o5.out ad e h
      rcases h with h|h
      ·have:=nA6.out ad e;omega
      exact o6.out ad e h
     ·have h1:=HNEW.out.1;have h2:=hcA.size;omega
     rw[List.set_set];intro i hi;have h2:=hcA.size;by_cases e:i=k
     ·subst e;rw[Xl _ _ _ hkl];exact⟨fun ad e=>⟨by have:=nA5.out ad e;have:=nwr9.out.size;omega,hA5y.out.lt e⟩,fun ad e=>⟨by have:=nA6.out ad e;have:=nwr9.out.size;omega,hA6y.out.lt e⟩⟩
     rw[Ab1 _ _ _ _ e];exact(HNEW.out.2 i (by omega)).wide (by omega)
   have hltI: ¬(k:Int)<n:=by omega
   go_wp2_with (first|(refine Cp ?_)|(refine Bt ?_;intro ws _ _));have hcz:Au (only zo) wr ws:=(inferInstance:Ch (only zo) wr ws).out;have hsz:=hcz.size;refine Bo rfl rfl (n:=2) rfl rfl ⟨_,_,rfl,Aa,Lib.hid ⟨M',nb,cb',A',n,c',L,rfl,rfl, ?_,h2,h3,hcapM, ?_,hLn,⟨h6,QN hL.out⟩,hmv.out,fun x hx=> ?_,fun ad e=> ?_,fun ad e=> ?_,fun x hx=> ?_⟩⟩
   ·exact hMM.out.chg hcz (fun _ ad e h=>hMn ad e h)
   ·exact hL.out.rd.chg hcz (fun _ ad e h=>(HAN.out ad e).2.1 h)
   ·have h9:=(hOk.out x hx).chg hcz (fun _ h=> .inl h);exact⟨h9.1,h9.2.2.2⟩
   ·have h8:=HMN.out ad e;have h9:=HNEW.out.1;omega
   ·have h8:=hL.out.lt e;have h9:=(HAN.out ad e).2.2.1;omega
   obtain⟨i,hi,rfl⟩:=List.getElem_of_mem hx;have e9:gt L i=L[i]:=by simp[gt,List.getD_eq_getElem?_getD,hi]
   rw[←e9];exact(HNEW.out.2 i (by omega)).wide (by omega)
end Go.Proofs.YtjjhceeookpieaaGreat
end
section
set_option maxRecDepth 100000
set_option maxHeartbeats 6400000
open Go Go.RowKit
namespace Go.Proofs.YtjjhceeookpieaaGreat
abbrev Nx:=List UInt8×List Pu
def Lx (L:List Nx) (i:Nat):Nx:=L.getD i ([],[])
def EvL (O:Nat→Prop) (w:World) (l:List JY) (L:List Nx):Prop:=l.length=L.length∧∀i,i<l.length→Mu O w (Lx L i).1 (Lx L i).2 (gt l i).v0 (gt l i).v1
theorem EvL.chg {w w':World} {O S:Nat→Prop} {l:List JY} {L:List Nx} (h:EvL O w l L) (c:Au S w w') (hs: ∀y,O y→¬S y):EvL O w' l L:=⟨h.1,fun i hi=>(h.2 i hi).chg c hs⟩
theorem EvL.mono {w:World} {O O':Nat→Prop} {l:List JY} {L:List Nx} (h:EvL O w l L) (ho: ∀y,O y→O' y):EvL O' w l L:=⟨h.1,fun i hi=>(h.2 i hi).mono ho⟩
theorem OF (l:List JY) (x:JY) (i:Nat) (h:i<l.length):gt (l++[x]) i=gt l i:=by
 unfold gt;rw[List.getD_eq_getElem?_getD,List.getD_eq_getElem?_getD,List.getElem?_append_left h]
theorem OG (l:List JY) (x:JY) (k:Nat) (h:l.length=k):gt (l++[x]) k=x:=by
 subst h;unfold gt;rw[List.getD_eq_getElem?_getD,List.getElem?_append_right (Nat.le_refl _),Nat.sub_self];rfl
def ClN (w w':World) (L:List Nx) (A:Option Addr) (n:Nat):Prop:=∃l:List JY,HR w' A (cellsOf l)∧l.length=n∧Hid ((∀ad,A=some ad→w.heap.size≤ad.block∧ad.block<w'.heap.size)∧EvL (fun y=>w.heap.size≤y∧y<w'.heap.size) w' l L)
theorem ClN.chg {w w1 w2:World} {L:List Nx} {A:Option Addr} {n:Nat} {S:Nat→Prop} (h:ClN w w1 L A n) (c:Au S w1 w2) (hs: ∀y,w.heap.size≤y→y<w1.heap.size→¬S y):ClN w w2 L A n:=by
 obtain⟨l,h1,h2,h3⟩:=h;have hz:=c.size;exact⟨l,⟨h1.out.chg c (fun _ ad e=>hs _ (h3.out.1 ad e).1 (h3.out.1 ad e).2)⟩,h2,Lib.hid ⟨fun ad e=>⟨(h3.out.1 ad e).1,Nat.lt_of_lt_of_le (h3.out.1 ad e).2 hz⟩,(h3.out.2.chg c (fun y h=>hs y h.1 h.2)).mono (fun y h=>⟨h.1,Nat.lt_of_lt_of_le h.2 hz⟩)⟩⟩
theorem ClN.lo {w0 w w':World} {L:List Nx} {A:Option Addr} {n:Nat} (h:ClN w w' L A n) (hz:w0.heap.size≤w.heap.size):ClN w0 w' L A n:=by
 obtain⟨l,h1,h2,h3⟩:=h;exact⟨l,h1,h2,Lib.hid ⟨fun ad e=>⟨Nat.le_trans hz (h3.out.1 ad e).1,(h3.out.1 ad e).2⟩,h3.out.2.mono (fun y h=>⟨Nat.le_trans hz h.1,h.2⟩)⟩⟩
theorem Kv {A:Option Addr} {n c:Nat} (l:List JY) (L:List Nx) {w:World} (h:Rd w A (cellsOf l)) (hl:l.length=n) (hn:n≤1000000) (hL:L.length=n) (hx: ∀i,i<n→Vg w (Lx L i).1 (Lx L i).2 (gt l i).v0 (gt l i).v1):
    Calls Tryz.prog 39 #[.slice A n c] w fun e w'=>∃A' c',e= .returned (.slice A' n c')∧Ag Ab w w'∧ClN w w' L A' n:=by
 have HX:=Lib.hid hx;have HR0:=Lib.hid h;have HLL:=Lib.hid hL;have hn9:n≤9223372036854775807:=by omega
 clear hx h hL;go_enter Tryz.func39,Tryz.ntmps39;go_wp2_with fail;go_loopw [3,8] (fun lv iv wr=>∃(k:Nat) (A':Option Addr) (c':Nat) (l':List JY),k≤n∧iv= .int .i64 (k:Int)∧lv= .slice A' k c'∧l'.length=k∧Nw w wr∧HO wr 58 2 A' k c' (cellsOf l')∧Aj w A'∧Hid (∀i,i<k→Mu (fun y=>w.heap.size≤y∧y<wr.heap.size∧¬An A' y) wr (Lx L i).1 (Lx L i).2 (gt l' i).v0 (gt l' i).v1)) (fun _ iv _=>n -(intOf iv).toNat)
 case atStart=>exact⟨0,none,0,[],Nat.zero_le _,rfl,rfl,rfl,inferInstance,⟨Cm.nil _ _ _⟩,⟨fun ad e=>by cases e⟩,Lib.hid (fun i h=>absurd h (Nat.not_lt_zero _))⟩
 case round=>
  obtain⟨k,A',c',l',hk,rfl,rfl,hl',nr,ho,hnA,HE⟩:=hrel;have hrw:HR wr A (cellsOf l):=⟨HR0.out.chg nr.out (fun _ _ _ h=>h)⟩;by_cases hlt:k<n
  ·have hltI:(k:Int)<n:=by omega
   have hkl:k<l.length:=by omega
   have hszx:(Af.enc (gt l k)).toArray.size =2:=rfl;have honx:=AY (gt l k);go_wp2_with (first|(refine BB 5 ?_;intro z5 wz5 _ _ _)|(refine Cp ?_)|(refine Bt ?_;intro ws _ _)|(refine Ja JY 54 ?_)|(refine Rk JY 58 ?_));have hcw:Au Ab w ws:=nr.out.trans (Aa (w0:=wr) (w:=ws)).chg (fun _ _ h=>h);have hxw:=(HX.out k hlt).nw hcw;have hsr:wr.heap.size≤ws.heap.size:=(Aa (w0:=wr) (w:=ws)).chg.size;have how:HO ws 58 2 A' k c' (cellsOf l'):=inferInstance;have hEw:Hid (∀i,i<k→Mu (fun y=>w.heap.size≤y∧y<wr.heap.size∧¬An A' y) ws (Lx L i).1 (Lx L i).2 (gt l' i).v0 (gt l' i).v1):=Lib.hid (fun i hi=>(HE.out i hi).chg (Aa (w0:=wr) (w:=ws)).chg (fun _ _ h=>h));have hAl: ∀ad,A'=some ad→ad.block<wr.heap.size:=fun ad e=>ho.out.lt e
   refine(IH hxw).mono ?_;rintro e w5 ⟨u0,u1,rfl,st5,hu⟩;have ho1:=hu.out.v.one;have nw5:Nw w w5:=⟨hcw.trans st5.chg (fun _ _ h=>h)⟩;have kb:=Sg ⟨u0,u1,ho1.1,ho1.2⟩;have ho5:HO w5 58 2 A' k c' (cellsOf l'):=inferInstance;have hs5:=st5.chg.size;have hws:=hcw.size;clear hcw hxw how ho HE hrw;go_wp2_with (first|(refine BM 15 (kb _) ?_;intro zb wb _ _ _)|((with_reducible apply(Bb (α:=JY)));exact rfl;exact rfl;infer_instance;infer_instance;exact HB.cells inferInstance;exact rfl;exact rfl;omega;(decide);(decide);intro A2 c3 wa st2 ho2 hG hcap2));have h5a:Au (An A') w5 wa:=(inferInstance:Ch (An A') w5 wa).out;have hsa:=h5a.size;have hG2: ∀ad,A2=some ad→A2=A'∨w5.heap.size≤ad.block:=fun ad e=>by
    rcases hG.out with h9|h9
    ·exact .inl h9
    right;rw[h9] at e;injection e with e
    rw[←e];exact(inferInstance:Ay w5 _).out
   have nwa:Nw w wa:=⟨nw5.out.trans h5a (fun y hy ⟨ad,e,h⟩=>by have:=hnA.out ad e;omega)⟩;refine⟨⟨k+1,A2,c3,l'++[⟨u0,u1,ho1.1,ho1.2⟩],by omega,by go_num,rfl,by rw[List.length_append,hl'];rfl,nwa,ho2,⟨fun ad e=> ?_⟩,Lib.hid (fun i hi=> ?_)⟩,by simp[intOf];omega⟩
   ·rcases hG2 ad e with h9|h9
    ·rw[h9] at e;exact hnA.out ad e
    omega
   by_cases hik:i=k
   ·subst hik;rw[OG l' _ i hl'];refine(((hu.out.s (O:=fun y=>ws.heap.size≤y∧y<w5.heap.size) (fun y h1 h2=>⟨h1,h2⟩)).chg h5a (fun y h1 ⟨ad,e,h⟩=>by have:=hAl ad e;omega)).mono (fun y h1=>⟨by omega,by omega,fun⟨ad,e,h⟩=> ?_⟩));rcases hG2 ad e with h9|h9
    ·rw[h9] at e;have:=hAl ad e;omega
    omega
   rw[OF l' _ i (by omega)];refine((((hEw.out i (by omega)).chg st5.chg (fun _ _ h=>h)).chg h5a (fun y h1 h=>h1.2.2 h)).mono (fun y h1=>⟨h1.1,by omega,fun⟨ad,e,h⟩=> ?_⟩));rcases hG2 ad e with h9|h9
   ·rw[h9] at e;exact h1.2.2 ⟨ad,e,h⟩
   omega
  have hltI: ¬(k:Int)<n:=by omega
  obtain rfl:k=n:=by omega
  go_wp2_with fail;go_ret;exact⟨A',⟨c',rfl⟩,Aa,l',⟨ho.out.rd⟩,hl',Lib.hid ⟨fun ad e=>⟨hnA.out ad e,ho.out.lt e⟩,by rw[hl',HLL.out],fun i hi=>(HE.out i (by omega)).mono (fun y h=>⟨h.1,h.2.1⟩)⟩⟩
def Ag9 (w w':World) (LX LG:List Nx) (mt ms:Nx) (a b c d:Value) (A1 A2:Option Addr) (n1 n2:Nat):Prop:=Hid (NJ w' w.heap.size w'.heap.size mt.1 mt.2 a b∧NJ w' w.heap.size w'.heap.size ms.1 ms.2 c d∧ClN w w' LX A1 n1∧ClN w w' LG A2 n2)
theorem PO {sd f:Ak} {p0 p1 x:Value} {g v:Int} {t0 t1 s0 s1 lg:Value} {mt ms:Nx} {X G:Option Addr} {xn xc gn gc:Nat} (xl gl:List JY) (LX LG:List Nx) {zr:Nat} {w:World} [hb:HB w zr 84 (Bg sd p0 p1 f g v (x::[.slice X xn xc,t0,t1,s0,s1, .slice G gn gc,lg])).toArray] (ht:Vg w mt.1 mt.2 t0 t1) (hs:Vg w ms.1 ms.2 s0 s1) (hX:Rd w X (cellsOf xl)) (hG:Rd w G (cellsOf gl)) (hxl:xl.length=xn) (hgl:gl.length=gn) (hxn:xn≤1000000) (hgn:gn≤1000000) (hXL:LX.length=xn) (hGL:LG.length=gn) (hxv: ∀i,i<xn→Vg w (Lx LX i).1 (Lx LX i).2 (gt xl i).v0 (gt xl i).v1) (hgv: ∀i,i<gn→Vg w (Lx LG i).1 (Lx LG i).2 (gt gl i).v0 (gt gl i).v1):
    Calls Tryz.prog 13 #[.pointer (some ⟨zr,0,none⟩)] w fun e w'=>∃a b c d A1 c1 A2 c2,e= .returned (.agg #[.slice A1 xn c1,a,b,c,d, .slice A2 gn c2])∧Ag Ab w w'∧Ag9 w w' LX LG mt ms a b c d A1 A2 xn gn:=by
 have HT:=Lib.hid ht;have HS:=Lib.hid hs;have HXR:=Lib.hid hX;have HGR:=Lib.hid hG;have HXV:=Lib.hid hxv;have HGV:=Lib.hid hgv;have hc69:Eg (Bg sd p0 p1 f g v (x::[.slice X xn xc,t0,t1,s0,s1, .slice G gn gc,lg])).toArray.toList 69=some (.slice X xn xc):=by
  rw[←Bp];exact Jz sd p0 p1 f g v _ 1
 have hc74:Eg (Bg sd p0 p1 f g v (x::[.slice X xn xc,t0,t1,s0,s1, .slice G gn gc,lg])).toArray.toList 74=some (.slice G gn gc):=by
  rw[←Bp];exact Jz sd p0 p1 f g v _ 6
 have hc70:((Bg sd p0 p1 f g v (x::[.slice X xn xc,t0,t1,s0,s1, .slice G gn gc,lg])).toArray.toList.drop 70).take 2=[t0,t1]:=by
  rw[show 70=68+2 from rfl,QY];rfl
 have hc72:((Bg sd p0 p1 f g v (x::[.slice X xn xc,t0,t1,s0,s1, .slice G gn gc,lg])).toArray.toList.drop 72).take 2=[s0,s1]:=by
  rw[show 72=68+4 from rfl,QY];rfl
 clear ht hs hX hG hxv hgv;go_enter Tryz.func13,Tryz.ntmps13;go_wp2_with (first|(refine BB 2 ?_;intro zo wzo _ _ _));have hzo:w.heap.size≤zo:=Nat.le_of_eq (inferInstance:AW w zo).eq.symm;have hzr:=hb.out.lt;have hOo:HB wzo zo 60 #[.slice none 0 0, .slice none 0 0, .slice none 0 0, .slice none 0 0, .slice none 0 0, .slice none 0 0]:=inferInstance;have oz:As (only zo) zr:=⟨fun e=>by have e':zr=zo:=e;omega⟩;have nwo:Nw w wzo:=⟨(Aa (w0:=w) (w:=wzo)).chg⟩;refine Ah ((only zo)) (by kernel_rfl) (fun wd _ _=> ?_);refine YS 0 ?_;refine YS 1 ?_;refine YS 2 ?_;refine YS 3 ?_;refine IS 4 69 hc69 ?_;refine YS 6 ?_;refine YS 7 ?_;refine YS 8 ?_;refine YS 9 ?_;refine' tk 10 _ rfl (by kernel_rfl) (by kernel_rfl) (by kernel_rfl) (fun _ _ _ h=>h) (yo (by rfl) fun w' _=> ?_) inferInstance ?_;rotate_left
 ·((apply(Ew (k:=70) (n:=2)));exact rfl;infer_instance;infer_instance;(decide);exact hc70;exact rfl)
 try simp only[Act.put,sA,sB,sC]
 refine YS 12 ?_;refine YS 13 ?_;refine YS 14 ?_;refine YS 15 ?_;refine' tk 16 _ rfl (by kernel_rfl) (by kernel_rfl) (by kernel_rfl) (fun _ _ _ h=>h) (yo (by rfl) fun w' _=> ?_) inferInstance ?_;rotate_left
 ·((apply(Ew (k:=72) (n:=2)));exact rfl;infer_instance;infer_instance;(decide);exact hc72;exact rfl)
 try simp only[Act.put,sA,sB,sC]
 refine YS 18 ?_;refine YS 19 ?_;refine YS 20 ?_;refine YS 21 ?_;refine IS 22 74 hc74 ?_;refine Yg 5 fun K_ hK_=> ?_
 go_simp;refine(Kv xl LX (HXR.out.chg (nwo.out.trans (Aa (w0:=wzo)).chg (fun _ _ h=>h)) (fun _ _ _ h=>h)) hxl hxn hXL (fun i hi=>(HXV.out i hi).nw (nwo.out.trans (Aa (w0:=wzo)).chg (fun _ _ h=>h)))).mono ?_;rintro e w5 ⟨A5,c5,rfl,st5,hc5⟩;have HC5:=Lib.hid hc5;clear hc5;refine Yz hK_ ?_;clear hK_ K_;refine Yg 11 fun K_ hK_=> ?_
 go_simp;refine(IH (HT.out.nw (nwo.out.trans (Aa (w0:=wzo)).chg (fun _ _ h=>h)))).mono ?_;rintro e w6 ⟨a,b,rfl,st6,hab⟩;refine Yz hK_ ?_;clear hK_ K_;refine Yg 17 fun K_ hK_=> ?_
 go_simp;refine(IH (HS.out.nw (nwo.out.trans (Aa (w0:=wzo)).chg (fun _ _ h=>h)))).mono ?_;rintro e w7 ⟨c,d,rfl,st7,hcd⟩;refine Yz hK_ ?_;clear hK_ K_;refine Yg 23 fun K_ hK_=> ?_
 go_simp;refine(Kv gl LG (HGR.out.chg (nwo.out.trans (Aa (w0:=wzo)).chg (fun _ _ h=>h)) (fun _ _ _ h=>h)) hgl hgn hGL (fun i hi=>(HGV.out i hi).nw (nwo.out.trans (Aa (w0:=wzo)).chg (fun _ _ h=>h)))).mono ?_;rintro e w8 ⟨A8,c8,rfl,st8,hc8⟩;have HC8:=Lib.hid hc8;clear hc8;have hone:Hid ((#[.slice A5 xn c5,a,b,c,d, .slice A8 gn c8]:Array Value).all (·.oneCell')=true):=Lib.hid (Aet _ _ _ _ _ _ rfl hab.out.v.one.1 hab.out.v.one.2 hcd.out.v.one.1 hcd.out.v.one.2 rfl);refine Yz hK_ ?_;clear hK_ K_;refine YS 24 ?_;refine Yh 25 fun K_ hK_=> ?_
 (refine NN rfl rfl hone.out ?_;intro wz stz hz)
 refine Ym hK_ ?_;clear hK_ K_;refine Yd ?_
 all_goals
  go_wp2_with fail;have q5:w.heap.size≤wzo.heap.size:=nwo.out.size;have q6:wzo.heap.size≤wd.heap.size:=(inferInstance:Ay wzo wd).out;have q7:=st5.chg.size;have q8:=st6.chg.size;have q9:=st7.chg.size;have q10:=st8.chg.size;have hzol:=hOo.out.lt;have hcz:Au (only zo) w8 wz:=(inferInstance:Ch (only zo) w8 wz).out;have q11:=hcz.size;have s56:Au Ab w5 w8:=(st6.chg.trans st7.chg (fun _ _ h=>h)).trans st8.chg (fun _ _ h=>h);have s68:Au Ab w6 w8:=st7.chg.trans st8.chg (fun _ _ h=>h);have e5:=((HC5.out.chg s56 (fun _ _ _ h=>h)).chg hcz (fun y h1 _ h=>by have h':y=zo:=h;omega)).lo (w0:=w) (by omega);have e8:=(HC8.out.chg hcz (fun y h1 _ h=>by have h':y=zo:=h;omega)).lo (w0:=w) (by omega);have eab:=(((hab.out.chg s68 (fun _ _ _ h=>h)).chg hcz (fun y h1 _ h=>by have h':y=zo:=h;omega)).s (O:=fun y=>w.heap.size≤y∧y<wz.heap.size) (fun y h1 h2=>⟨by omega,by omega⟩)).x (lo:=w.heap.size) (hi:=wz.heap.size) (fun _ h=>h);have ecd:=(((hcd.out.chg st8.chg (fun _ _ _ h=>h)).chg hcz (fun y h1 _ h=>by have h':y=zo:=h;omega)).s (O:=fun y=>w.heap.size≤y∧y<wz.heap.size) (fun y h1 h2=>⟨by omega,by omega⟩)).x (lo:=w.heap.size) (hi:=wz.heap.size) (fun _ h=>h);exact Bo rfl rfl (n:=6) rfl rfl ⟨a,b,c,d,A5,c5,A8,c8,rfl,Aa,Lib.hid ⟨eab,ecd,e5,e8⟩⟩
end Go.Proofs.YtjjhceeookpieaaGreat
end
section
open Go Go.RowKit
namespace Go.Proofs.YtjjhceeookpieaaGreat
def hR1:Ak:=⟨1::List.replicate 31 0,by simp⟩
end Go.Proofs.YtjjhceeookpieaaGreat
end
