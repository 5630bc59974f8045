/- UhUpA, UhUpB, UhUpC, UhUpD -/
import Derived.Test.YtjjhceeookpieaaGreatUhRpC
import Derived.Test.YtjjhceeookpieaaGreatUhWyQ
import Derived.Test.YtjjhceeookpieaaGreatUhTgL
import Derived.Test.YtjjhceeookpieaaGreatUhZ
import Derived.Test.YtjjhceeookpieaaGreatUhSnA
import Derived.Test.YtjjhceeookpieaaGreatUhTgK
import Derived.Test.YtjjhceeookpieaaGreatUhWuB
import Derived.Test.YtjjhceeookpieaaGreatUhSnF
import Derived.Test.YtjjhceeookpieaaGreatUhDgB
section
open Go Go.RowKit
namespace Go.Proofs.YtjjhceeookpieaaGreat
structure Ea where
 nm:List UInt8
 v:Int
 x:Int
 A:Option Addr
 n:Nat
 c:Nat
 P:List Ad
 C:Option Addr
 m:Nat
 q:Nat
 D:List Ax
instance Amm:Af Ea:=⟨5,fun t=>[.string (Al t.nm), .int .i64 t.v, .int .i64 t.x, .slice t.A t.n t.c, .slice t.C t.m t.q],fun _=>rfl,fun t u hu=>by
 simp only[List.mem_cons,List.not_mem_nil,or_false] at hu;rcases hu with rfl|rfl|rfl|rfl|rfl<;>rfl,⟨[],0,0,none,0,0,[],none,0,0,[]⟩⟩
def Ea.k (t:Ea):Xx:=(t.nm,t.v,t.x,t.P,t.D.map Ax.m)
def GO:Array Value:=#[.string ⟨#[]⟩, .int .i64 0, .int .i64 0, .slice none 0 0, .slice none 0 0]
instance Amn:Bm Tryz.prog 40 66 5 80 (.agg GO):=⟨⟨Tryz.underlying40,by kernel_rfl,rfl,by decide⟩⟩
instance Ako:AL Tryz.prog 40:=⟨fun _=>by kernel_rfl,fun _=>by kernel_rfl⟩
theorem Ags (t:Ea):Eg (Af.enc t) 0=some (.string (Al t.nm)):=rfl
theorem Amo (t:Ea):Eg (Af.enc t) 1=some (.int .i64 t.v):=rfl
theorem Amp (t:Ea):Eg (Af.enc t) 2=some (.int .i64 t.x):=rfl
theorem Amq (t:Ea):Eg (Af.enc t) 3=some (.slice t.A t.n t.c):=rfl
theorem Zr (t:Ea):Eg (Af.enc t) 4=some (.slice t.C t.m t.q):=rfl
def KC (O:Nat→Prop) (A:Option Addr) (vs:List Value):Prop:=vs≠[]→∀ad,A=some ad→O ad.block
theorem KC.chgA {O S:Nat→Prop} {A:Option Addr} {vs:List Value} (h:KC O A vs) (hs: ∀y,S y→¬O y):Dx S A vs:=fun hn ad e h2=>hs _ h2 (h hn ad e)
theorem KC.mono {O O':Nat→Prop} {A:Option Addr} {vs:List Value} (h:KC O A vs) (ho: ∀y,O y→O' y):KC O' A vs:=fun hn ad e=>ho _ (h hn ad e)
theorem KC.nil (O:Nat→Prop) (A:Option Addr):KC O A []:=fun h=>absurd rfl h
theorem KC.newA {w:World} {O:Nat→Prop} {A:Option Addr} {vs:List Value} (h:Aj w A) (ho: ∀y,w.heap.size≤y→O y):KC O A vs:=fun _ ad e=>ho _ (h.out ad e)
theorem KC.lt {w:World} {O:Nat→Prop} {A:Option Addr} {vs:List Value} (h:KC O A vs) (hr:Rd w A vs):KC (fun y=>O y∧y<w.heap.size) A vs:=fun hn ad e=>⟨h hn ad e,DC hr hn e⟩
theorem KC.old {w:World} {A:Option Addr} {vs:List Value} (hr:Rd w A vs):KC (fun y=>y<w.heap.size) A vs:=fun hn _ e=>DC hr hn e
theorem BN.chgO {O S:Nat→Prop} {w w':World} {k:KR} (h:BN w k) (o:KC O k.A (cellsOf k.l)) (c:Au S w w') (hs: ∀y,S y→¬O y):BN w' k:=⟨h.rd.chg c (o.chgA hs),h.len,h.cap,h.le⟩
structure FH (O:Nat→Prop) (w:World) (t:Ea):Prop where
 pr:Rd w t.A (cellsOf t.P)
 pl:t.P.length=t.n
 pc:t.n≤t.c
 p9:t.n≤1000
 dr:Rd w t.C (cellsOf t.D)
 dl:t.D.length=t.m
 dc:t.m≤t.q
 d9:t.m≤1000
 ds: ∀x∈t.D,Vh w x
 oA:KC O t.A (cellsOf t.P)
 oC:KC O t.C (cellsOf t.D)
 oD: ∀x∈t.D,KC O x.k.A (cellsOf x.k.l)
theorem FH.chg {O S:Nat→Prop} {w w':World} {t:Ea} (h:FH O w t) (c:Au S w w') (hs: ∀y,S y→¬O y):FH O w' t:=
 ⟨h.pr.chg c (h.oA.chgA hs),h.pl,h.pc,h.p9,h.dr.chg c (h.oC.chgA hs),h.dl,h.dc,h.d9,fun x hx=>BN.chgO (h.ds x hx) (h.oD x hx) c hs,h.oA,h.oC,h.oD⟩
theorem FH.mono {O O':Nat→Prop} {w:World} {t:Ea} (h:FH O w t) (ho: ∀y,O y→O' y):FH O' w t:=
 ⟨h.pr,h.pl,h.pc,h.p9,h.dr,h.dl,h.dc,h.d9,h.ds,h.oA.mono ho,h.oC.mono ho,fun x hx=>(h.oD x hx).mono ho⟩
theorem FH.lt {O:Nat→Prop} {w:World} {t:Ea} (h:FH O w t):FH (fun y=>O y∧y<w.heap.size) w t:=
 ⟨h.pr,h.pl,h.pc,h.p9,h.dr,h.dl,h.dc,h.d9,h.ds,h.oA.lt h.pr,h.oC.lt h.dr,fun x hx=>(h.oD x hx).lt (h.ds x hx).rd⟩
structure Jf where
 v:Int
 x:Int
 K:List KR
 set:Bool
 tm:Kj
 sv:Int
 sx:Int
 A:Option Addr
 n:Nat
 c:Nat
 P:List AE
 G:Option Addr
 gn:Nat
 gc:Nat
 l:List Ea
def Rc (t:Jf):List Value:=[.int .i64 t.sv, .int .i64 t.sx, .slice t.A t.n t.c, .slice t.G t.gn t.gc]
def Fy (t:Jf):List Value:=BA t.v t.x t.K++(.bool t.set::(BI t.tm.v t.tm.e t.tm.s t.tm.h++Rc t))
def Jf.m (t:Jf):Zu:=⟨(t.v,t.x,t.K.map KR.m),t.set,t.tm.v,t.tm.e,t.tm.s,t.tm.h,t.sv,t.sx,t.P,t.l.map Ea.k⟩
structure Fz (O:Nat→Prop) (w:World) (t:Jf):Prop where
 k4:t.K.length=4
 kin: ∀k∈t.K,BN w k
 ko: ∀k∈t.K,KC O k.A (cellsOf k.l)
 pr:Rd w t.A (cellsOf t.P)
 pl:t.P.length=t.n
 pc:t.n≤t.c
 p9:t.n≤1000
 po:KC O t.A (cellsOf t.P)
 gr:Rd w t.G (cellsOf t.l)
 gl:t.l.length=t.gn
 gcp:t.gn≤t.gc
 g9:t.gn≤1000
 go:KC O t.G (cellsOf t.l)
 ts: ∀y∈t.l,FH O w y
 pos:t.set=true→∀p∈t.P,1≤p.v
theorem Fz.chg {O S:Nat→Prop} {w w':World} {t:Jf} (h:Fz O w t) (c:Au S w w') (hs: ∀y,S y→¬O y):Fz O w' t:=
 ⟨h.k4,fun k hk=>BN.chgO (h.kin k hk) (h.ko k hk) c hs,h.ko,h.pr.chg c (h.po.chgA hs),h.pl,h.pc,h.p9,h.po,h.gr.chg c (h.go.chgA hs),h.gl,h.gcp,h.g9,h.go,fun y hy=>(h.ts y hy).chg c hs,h.pos⟩
theorem Fz.nw {O:Nat→Prop} {w w':World} {t:Jf} (h:Fz O w t) (c:Au Ab w w'):Fz O w' t:=h.chg c (fun _ h=>h.elim)
theorem Fz.mono {O O':Nat→Prop} {w:World} {t:Jf} (h:Fz O w t) (ho: ∀y,O y→O' y):Fz O' w t:=
 ⟨h.k4,h.kin,fun k hk=>(h.ko k hk).mono ho,h.pr,h.pl,h.pc,h.p9,h.po.mono ho,h.gr,h.gl,h.gcp,h.g9,h.go.mono ho,fun y hy=>(h.ts y hy).mono ho,h.pos⟩
def Agt:Kj:=⟨0,0,0,Aq⟩
def SV (v x:Int) (K:List KR):Jf:=⟨v,x,K,false,Agt,0,0,none,0,0,[],none,0,0,[]⟩
theorem Agu {O:Nat→Prop} {w:World} {v x:Int} {K:List KR} (h4:K.length=4) (hK: ∀k∈K,BN w k) (hO: ∀k∈K,KC O k.A (cellsOf k.l)):Fz O w (SV v x K):=
 ⟨h4,hK,hO,Rd.nil _ _,rfl,Nat.le_refl _,Nat.zero_le _,KC.nil _ _,Rd.nil _ _,rfl,Nat.le_refl _,Nat.zero_le _,KC.nil _ _,fun y hy=>(by cases hy),fun h=>(by cases h)⟩
theorem Ez (v x:Int) (K:List KR) (h:K.length=4):(BA v x K).length =10:=by
 have:=BG v x K h;simpa using this
theorem EB (v e s:Int) (h:Ak):(BI v e s h).length =35:=by
 unfold BI;simp only[List.length_cons];rw[Am,h.len]
theorem Aex (t:Jf) (h:t.K.length=4):(Fy t).length =50:=by
 unfold Fy Rc;rw[List.length_append,List.length_cons,List.length_append,Ez _ _ _ h,EB];rfl
theorem Ft (t:Jf) (h:t.K.length=4):(Fy t).toArray.size =50:=Aex t h
theorem Ac3 (t:Jf): ∀u∈Fy t,u.oneCell'=true:=by
 intro u hu;unfold Fy Rc at hu;rw[List.mem_append,List.mem_cons,List.mem_append] at hu;rcases hu with h|rfl|h|h
 ·have h1:=Bq t.v t.x t.K;rw[Array.all_eq_true_iff_forall_mem] at h1;exact h1 u (by simpa using h)
 ·rfl
 ·have h1:=JK t.tm.v t.tm.e t.tm.s t.tm.h;rw[Array.all_eq_true_iff_forall_mem] at h1;exact h1 u (by simpa using h)
 simp only[List.mem_cons,List.not_mem_nil,or_false] at h;rcases h with rfl|rfl|rfl|rfl<;>rfl
theorem Hj (t:Jf):(Fy t).toArray.all (·.oneCell')=true:=by
 rw[Array.all_eq_true_iff_forall_mem];intro u hu;exact Ac3 t u (by simpa using hu)
theorem SC (t:Jf) (h:t.K.length=4) (i:Nat):(Fy t)[10+i]? =(Value.bool t.set::(BI t.tm.v t.tm.e t.tm.s t.tm.h++Rc t))[i]? :=by
 unfold Fy;rw[List.getElem?_append_right (by rw[Ez _ _ _ h];omega),Ez _ _ _ h,Nat.add_sub_cancel_left]
theorem Ac4 (t:Jf) (h:t.K.length=4):Eg (Fy t) 10=some (.bool t.set):=by
 rw[←Bp,SC t h 0];rfl
theorem Aj3 (t:Jf) (h:t.K.length=4):Eg (Fy t) 11=some (.int .i64 t.tm.v):=by
 rw[←Bp,SC t h 1];rfl
theorem Aj4 (t:Jf) (h:t.K.length=4):Eg (Fy t) 13=some (.int .i64 t.tm.s):=by
 rw[←Bp,SC t h 3];rfl
theorem UJ (t:Jf) (h:t.K.length=4) (i:Nat):(Fy t)[46+i]? =(Rc t)[i]? :=by
 rw[show 46+i=10+((35+i)+1) by omega,SC t h,List.getElem?_cons_succ,List.getElem?_append_right (by rw[EB];omega),EB,Nat.add_sub_cancel_left]
theorem Aj5 (t:Jf) (h:t.K.length=4):Eg (Fy t) 48=some (.slice t.A t.n t.c):=by
 rw[←Bp,UJ t h 2];rfl
theorem Aj6 (t:Jf) (h:t.K.length=4):Eg (Fy t) 49=some (.slice t.G t.gn t.gc):=by
 rw[←Bp,UJ t h 3];rfl
theorem Aey (t:Jf) (h:t.K.length=4):((Fy t).drop 0).take 10=BA t.v t.x t.K:=by
 unfold Fy;rw[List.drop_zero,List.take_append_of_le_length (by rw[Ez _ _ _ h];exact Nat.le_refl _),List.take_of_length_le (by rw[Ez _ _ _ h];exact Nat.le_refl _)]
instance Amr:Cl Tryz.prog 42 50:=⟨by kernel_rfl,⟨_,Tryz.underlying42,rfl⟩⟩
instance Ams:Eb Tryz.prog 42 (Fy (SV 0 0 DJ)).toArray :=⟨.agg (Fy (SV 0 0 DJ)).toArray,fun _=>by kernel_rfl,rfl⟩
end Go.Proofs.YtjjhceeookpieaaGreat
end
section
set_option maxRecDepth 100000
set_option maxHeartbeats 3200000
open Go Go.RowKit
namespace Go.Proofs.YtjjhceeookpieaaGreat
theorem IL (v x:Int) {A:Option Addr} {n c:Nat} {P:List AE} (nm:List UInt8) {w:World} [hr:HR w A (cellsOf P)] (hl:P.length=n) (h9:n≤1000):
    Calls Tryz.prog 80 #[.agg #[.int .i64 v, .int .i64 x, .slice A n c], .string (Al nm)] w fun e w'=>e= .returned (.int .i64 ((Dy P nm).getD 0))∧Ag Ab w w':=by
 have HRR:=Lib.hid hr.out;obtain⟨R,hR⟩: ∃R,R=(Dy P nm).getD 0:=⟨_,rfl⟩;have HR0:=Lib.hid hR;rw[←hR];clear hR;go_enter Tryz.func80,Tryz.ntmps80;go_wp2_with (first|(refine Bv 2 ?_;intro za wza _ _ _));have hza:HB wza za 39 #[.int .i64 v, .int .i64 x, .slice A n c]:=inferInstance;go_loopw [5] (fun iv wr=>∃k:Nat,k≤n∧iv= .int .i64 (k:Int)∧Ag Ab w wr∧HB wr za 39 #[.int .i64 v, .int .i64 x, .slice A n c]∧Hid (Dy P nm=Dy (P.drop k) nm)) (fun iv _=>n -(intOf iv).toNat)
 case atStart=>exact⟨0,Nat.zero_le _,rfl,Aa,hza,Lib.hid rfl⟩
 case round=>
  clear hza;obtain⟨k,hk,rfl,st,hx,HD⟩:=hrel;have nr:Nw w wr:=⟨st.chg⟩;have hra:HR wr A (cellsOf P):=nr.hrR HRR.out;by_cases hlt:k<n
  ·have hltI:(k:Int)<n:=by omega
   have hkl:k<P.length:=by omega
   by_cases he:(gt P k).l =nm
   ·have hE:((Al (gt P k).l).toList ==(Al nm).toList)=true:=by rw[he];simp
    have HV:Hid (R=(gt P k).v):=Lib.hid (by rw[HR0.out,HD.out,Rf P nm k hkl,if_pos he];rfl);clear he;go_wp2_with (first|(refine XG 18 AE k 0 2 hra hkl (LK _) ?_)|(refine XG 26 AE k 1 2 hra hkl (Sm _) ?_)|((with_reducible apply Ac);exact rfl;infer_instance;(first|(exact rfl)|(exact tg_hw _)|(exact tg_ctr _)|(exact tg_ecu _)|(exact srch_who)|exact srch_fd))|(refine Ja AE 37 ?_)|(refine SX 101 Tryz.underlying101 ?_));go_ret;rw[HV.out];exact⟨rfl,Aa⟩
   have hE:((Al (gt P k).l).toList ==(Al nm).toList)=false:=by rw[AI,AI];simpa using he
   have HD2:Hid (Dy P nm=Dy (P.drop (k+1)) nm):=Lib.hid (by rw[HD.out,Rf P nm k hkl,if_neg he]);clear he;go_wp2_with (first|(refine XG 18 AE k 0 2 hra hkl (LK _) ?_)|((with_reducible apply Ac);exact rfl;infer_instance;(first|(exact rfl)|(exact tg_hw _)|(exact tg_ctr _)|(exact tg_ecu _)|(exact srch_who)|exact srch_fd))|(refine Ja AE 37 ?_)|(refine SX 101 Tryz.underlying101 ?_));exact⟨⟨k+1,by omega,by go_num,Aa,inferInstance,HD2⟩,by simp[intOf];omega⟩
  have hltI: ¬(k:Int)<n:=by omega
  have HV:Hid (R=0):=Lib.hid (by rw[HR0.out,HD.out,List.drop_of_length_le (by omega)];rfl);go_wp2_with (first|((with_reducible apply Ac);exact rfl;infer_instance;(first|(exact rfl)|(exact tg_hw _)|(exact tg_ctr _)|(exact tg_ecu _)|(exact srch_who)|exact srch_fd)));go_ret;rw[HV.out];exact⟨rfl,Aa⟩
theorem Pf (l:List Ea) (nm:List UInt8) (k:Nat) (h:k<l.length):Fv ((l.drop k).map Ea.k) nm=if(gt l k).nm =nm then true else Fv ((l.drop (k+1)).map Ea.k) nm:=by
 rw[GZ l k h,List.map_cons,Fv,List.any_cons];show(decide ((gt l k).nm =nm)||_)=_;by_cases e:(gt l k).nm =nm
 ·rw[if_pos e,decide_eq_true e,Bool.true_or]
 rw[if_neg e,decide_eq_false e,Bool.false_or];rfl
theorem UK {A:Option Addr} {n c:Nat} {l:List Ea} (nm:List UInt8) {w:World} [hr:HR w A (cellsOf l)] (hl:l.length=n) (h9:n≤1000):
    Calls Tryz.prog 82 #[.slice A n c, .string (Al nm)] w fun e w'=>e= .returned (.bool (Fv (l.map Ea.k) nm))∧Ag Ab w w':=by
 have HRR:=Lib.hid hr.out;obtain⟨R,hR⟩: ∃R,R=Fv (l.map Ea.k) nm:=⟨_,rfl⟩;have HR0:=Lib.hid hR;rw[←hR];clear hR;go_enter Tryz.func82,Tryz.ntmps82;go_wp2_with fail;go_loopw [5] (fun iv wr=>∃k:Nat,k≤n∧iv= .int .i64 (k:Int)∧Ag Ab w wr∧Hid (Fv (l.map Ea.k) nm=Fv ((l.drop k).map Ea.k) nm)) (fun iv _=>n -(intOf iv).toNat)
 case atStart=>exact⟨0,Nat.zero_le _,rfl,Aa,Lib.hid rfl⟩
 case round=>
  obtain⟨k,hk,rfl,st,HD⟩:=hrel;have nr:Nw w wr:=⟨st.chg⟩;have hra:HR wr A (cellsOf l):=nr.hrR HRR.out;by_cases hlt:k<n
  ·have hltI:(k:Int)<n:=by omega
   have hkl:k<l.length:=by omega
   by_cases he:(gt l k).nm =nm
   ·have hE:((Al (gt l k).nm).toList ==(Al nm).toList)=true:=by rw[he];simp
    have HV:Hid (R=true):=Lib.hid (by rw[HR0.out,HD.out,Pf l nm k hkl,if_pos he]);clear he;go_wp2_with (first|(refine XG 16 Ea k 0 5 hra hkl (Ags _) ?_)|(refine Ja Ea 40 ?_)|(refine SX 66 Tryz.underlying66 ?_));go_ret;rw[HV.out];exact⟨rfl,Aa⟩
   have hE:((Al (gt l k).nm).toList ==(Al nm).toList)=false:=by rw[AI,AI];simpa using he
   have HD2:Hid (Fv (l.map Ea.k) nm=Fv ((l.drop (k+1)).map Ea.k) nm):=Lib.hid (by rw[HD.out,Pf l nm k hkl,if_neg he]);clear he;go_wp2_with (first|(refine XG 16 Ea k 0 5 hra hkl (Ags _) ?_)|(refine Ja Ea 40 ?_)|(refine SX 66 Tryz.underlying66 ?_));exact⟨⟨k+1,by omega,by go_num,Aa,HD2⟩,by simp[intOf];omega⟩
  have hltI: ¬(k:Int)<n:=by omega
  have HV:Hid (R=false):=Lib.hid (by rw[HR0.out,HD.out,List.drop_of_length_le (by omega)];rfl);go_wp2_with fail;go_ret;rw[HV.out];exact⟨rfl,Aa⟩
theorem WD (l:List Ea) (nm:List UInt8) (k:Nat) (h:k<l.length):Gn ((l.drop k).map Ea.k) nm=match JJ ((gt l k).D.map Ax.m) nm with|some q=>some q|none=>Gn ((l.drop (k+1)).map Ea.k) nm:=by
 rw[GZ l k h,List.map_cons,Gn];rfl
theorem Re (d:Ax):Eg (Af.enc d) 0=some (.string (Al d.l)):=rfl
theorem Zs (d:Ax):((Af.enc d).drop 1).take 2=Af.enc d.k:=rfl
def Agv (l:List Ea) (o:Option (List Ak×Int)) (k:KR):Prop:=(if o.isSome then some k.m else none)=o∧(k=Ub∨∃t∈l,∃y∈t.D,k=y.k)
theorem Agv.kin {O:Nat→Prop} {w:World} {l:List Ea} {o:Option (List Ak×Int)} {k:KR} (h:Agv l o k) (hT: ∀t∈l,FH O w t):BN w k:=by
 rcases h.2 with rfl|⟨t,ht,y,hy,rfl⟩
 ·exact Afd w _ (List.mem_cons_self ..)
 exact(hT t ht).ds y hy
instance Ahb:Cl Tryz.prog 30 2:=⟨by kernel_rfl,_,Tryz.underlying30,rfl⟩
instance Ahc:Eb Tryz.prog 30 #[.slice none 0 0, .int .i64 0]:=⟨.agg #[.slice none 0 0, .int .i64 0],fun _=>by kernel_rfl,rfl⟩
theorem WE (w:World):(Instr.build 30 #[]).run Tryz.prog w= .ok (.agg #[.slice none 0 0, .int .i64 0]) w:=by kernel_rfl
theorem Qh {O:Nat→Prop} {A:Option Addr} {n c:Nat} {l:List Ea} (nm:List UInt8) {w:World} [hr:HR w A (cellsOf l)] (hT: ∀t∈l,FH O w t) (hl:l.length=n) (h9:n≤1000):
    Calls Tryz.prog 83 #[.slice A n c, .string (Al nm)] w fun e w'=>Ag Ab w w'∧∃k,e= .returned (.tuple #[.agg (Af.enc k).toArray, .bool (Gn (l.map Ea.k) nm).isSome])∧Hid (Agv l (Gn (l.map Ea.k) nm) k):=by
 have HRR:=Lib.hid hr.out;have HT:=Lib.hid hT;obtain⟨R,hR⟩: ∃R,R=Gn (l.map Ea.k) nm:=⟨_,rfl⟩;have HR0:=Lib.hid hR;rw[←hR];clear hR hT;go_enter Tryz.func83,Tryz.ntmps83;go_wp2_with (first|(refine BB 4 ?_;intro zo wzo _ _ _));have hzo:HB wzo zo 30 #[.slice none 0 0, .int .i64 0]:=inferInstance;have hso:w.heap.size≤zo:=Nat.le_of_eq (inferInstance:AW w zo).eq.symm;go_loopw [6] (fun iv wr=>∃i:Nat,i≤n∧iv= .int .i64 (i:Int)∧Ag Ab w wr∧HB wr zo 30 #[.slice none 0 0, .int .i64 0]∧Hid (R=Gn ((l.drop i).map Ea.k) nm)) (fun iv _=>n -(intOf iv).toNat)
 case atStart=>exact⟨0,Nat.zero_le _,rfl,Aa,hzo,HR0⟩
 case round=>
  clear hzo;obtain⟨i,hi,rfl,st,hz,HD⟩:=hrel;have nr:Nw w wr:=⟨st.chg⟩;have hra:HR wr A (cellsOf l):=nr.hrR HRR.out;by_cases hlt:i<n
  ·have hltI:(i:Int)<n:=by omega
   have hil:i<l.length:=by omega
   have HTI:=Lib.hid (HT.out _ (BD l i hil));obtain⟨D,hD⟩: ∃D,D=(gt l i).D :=⟨_,rfl⟩;have hdl:D.length=(gt l i).m :=by rw[hD];exact HTI.out.dl
   have hd9:=HTI.out.d9;have HDD:Hid (R=match JJ (D.map Ax.m) nm with|some q=>some q|none=>Gn ((l.drop (i+1)).map Ea.k) nm):=Lib.hid (by rw[HD.out,WD l nm i hil,hD]);have HDR:Hid (Rd w (gt l i).C (cellsOf D)):=Lib.hid (by rw[hD];exact HTI.out.dr);have HDEQ:=Lib.hid hD;clear hD HD;go_wp2_with fail;go_loopw [7] (fun jv wt=>∃j:Nat,j≤(gt l i).m ∧jv= .int .i64 (j:Int)∧Ag Ab w wt∧HB wt zo 30 #[.slice none 0 0, .int .i64 0]∧Hid (JJ (D.map Ax.m) nm=JJ ((D.drop j).map Ax.m) nm)) (fun jv _=>(gt l i).m -(intOf jv).toNat)
   case atStart=>exact⟨0,Nat.zero_le _,rfl,st,hz,Lib.hid rfl⟩
   case round=>
    clear hz hra nr;obtain⟨j,hj,rfl,st2,hz2,HE⟩:=hrel;have nt:Nw w wr:=⟨st2.chg⟩;have hrt:HR wr A (cellsOf l):=nt.hrR HRR.out;have hrd:HR wr (gt l i).C (cellsOf D):=nt.hrR HDR.out;by_cases hjt:j<(gt l i).m
    ·have hjI:(j:Int)<(gt l i).m :=by omega
     have hjl:j<D.length:=by omega
     by_cases he:(gt D j).l =nm
     ·have hE:((Al (gt D j).l).toList ==(Al nm).toList)=true:=by rw[he];simp
      have HV:Hid (R=some (gt D j).k.m):=Lib.hid (by rw[HDD.out,HE.out,Pi D nm j hjl,if_pos he]);clear he;go_wp2_with (first|(refine XG 19 Ea i 4 5 hrt hil (Zr _) ?_)|(refine XG 28 Ea i 4 5 hrt hil (Zr _) ?_)|(refine XG 39 Ea i 4 5 hrt hil (Zr _) ?_)|(refine XG 32 Ax j 0 5 hrd hjl (Re _) ?_)|((with_reducible apply(Bu (dst:=some 43)));(with_reducible apply(OA (α:=Ax) (k:=j) (j:=1) (s:=5) (n:=2)));infer_instance;exact rfl;exact hrd;exact rfl;(decide);exact hjl;exact Zs _;exact rfl)|((with_reducible apply DR);exact rfl;exact rfl;exact hz2;infer_instance;exact rfl;exact rfl;exact AY _;intro ws _ _)|(refine Ja Ea 40 ?_)|(refine SX 66 Tryz.underlying66 ?_)|(refine Ja Ax 64 ?_)|(refine SX 213 Tryz.underlying213 ?_));refine Lg (g:=zo) (b:=true) rfl rfl (n:=2) rfl rfl ⟨Aa,(gt D j).k,by rw[HV.out];rfl,Lib.hid ⟨by rw[HV.out];rfl, .inr ⟨gt l i,BD l i hil,gt D j,by rw[←HDEQ.out];exact BD D j hjl,rfl⟩⟩⟩
     have hE:((Al (gt D j).l).toList ==(Al nm).toList)=false:=by rw[AI,AI];simpa using he
     have HE2:Hid (JJ (D.map Ax.m) nm=JJ ((D.drop (j+1)).map Ax.m) nm):=Lib.hid (by rw[HE.out,Pi D nm j hjl,if_neg he]);clear he;go_wp2_with (first|(refine XG 19 Ea i 4 5 hrt hil (Zr _) ?_)|(refine XG 28 Ea i 4 5 hrt hil (Zr _) ?_)|(refine XG 32 Ax j 0 5 hrd hjl (Re _) ?_)|(refine Ja Ea 40 ?_)|(refine SX 66 Tryz.underlying66 ?_)|(refine Ja Ax 64 ?_)|(refine SX 213 Tryz.underlying213 ?_));exact⟨⟨j+1,by omega,by go_num,Aa,inferInstance,HE2⟩,by simp[intOf];omega⟩
    have hjI: ¬(j:Int)<(gt l i).m :=by omega
    have HN:Hid (R=Gn ((l.drop (i+1)).map Ea.k) nm):=Lib.hid (by rw[HDD.out,HE.out,List.drop_of_length_le (by omega)];rfl);go_wp2_with (first|(refine XG 19 Ea i 4 5 hrt hil (Zr _) ?_)|(refine Ja Ea 40 ?_)|(refine SX 66 Tryz.underlying66 ?_));exact⟨⟨i+1,by omega,by go_num,Aa,inferInstance,HN⟩,by simp[intOf];omega⟩
  have hltI: ¬(i:Int)<n:=by omega
  have HV:Hid (R=none):=Lib.hid (by rw[HD.out,List.drop_of_length_le (by omega)];rfl);go_wp2_with (first|(refine Ji (WE _) ?_)|(refine Bt ?_;intro ws _ _));refine Lg (g:=zo) (b:=false) rfl rfl (n:=2) rfl rfl ⟨Aa,Ub,by rw[HV.out];rfl,Lib.hid ⟨by rw[HV.out];rfl, .inl rfl⟩⟩
end Go.Proofs.YtjjhceeookpieaaGreat
end
section
set_option maxRecDepth 100000
set_option maxHeartbeats 3200000
open Go Go.RowKit
namespace Go.Proofs.YtjjhceeookpieaaGreat
def SD (m:List UInt8):Kj:=if UW m then⟨mtV m,mtE m,SW m,UP m⟩ else Agt
theorem Acs.uniU {b:List UInt8} {w w':World} {e:Ending} (h:Acs b w e w'):Ag Ab w w'∧e= .returned (.tuple #[.agg (SD b).arr, .int .i64 (if UW b then 0 else 2)]):=by
 refine⟨h.1, ?_⟩;rw[h.2];unfold SD;by_cases hk:UW b=true
 ·rw[if_pos hk,if_pos hk,if_pos hk];rfl
 rw[if_neg hk,if_neg hk,if_neg hk];rfl
theorem Ip (t:Kj):t.arr.size=35:=by
 have:=EB t.v t.e t.s t.h;simpa[Kj.arr] using this
theorem SE (t:Kj):t.arr.all (·.oneCell')=true:=JK _ _ _ _
theorem MD (v e:Int) (K:List KR) (i:Nat) (h:i<K.length):BU (v,e,K.map KR.m) i=(gt K i).m :=by
 unfold BU;simp[gt,List.getD_eq_getElem?_getD,h]
theorem Aj7 (t:Kj):Eg t.arr.toList 0=some (.int .i64 t.v):=rfl
theorem Aj8 (t:Kj):Eg t.arr.toList 1=some (.int .i64 t.e):=rfl
theorem Afj (t:Kj):Eg t.arr.toList 2=some (.int .i64 t.s):=rfl
def Afk (set:Bool) (tv ts:Int) (k:List Ak×Int) (E:Em) (now:Int) (w:World):Ending→World→Prop:=fun e w'=>Ag Ab w w'∧∃(x:Kj) (err:Int),e= .returned (.tuple #[.agg x.arr, .int .i64 err])∧Hid (err=EL set tv ts k E.m E.l now∧(err=0→x=⟨mtV E.m,mtE E.m,SW E.m,UP E.m⟩))
theorem UL (t:Jf) (v e0:Int) (K:List KR) (E:Em) (now:Int) {w:World} (h4t:t.K.length=4) (h4:K.length=4) (hK: ∀k∈K,BN w k) (hE:Cc w E):
    Calls Tryz.prog 36 #[.agg (Fy t).toArray, .agg (BA v e0 K).toArray, .agg (Af.enc E).toArray, .int .i64 now] w (Afk t.set t.tm.v t.tm.s (BU (v,e0,K.map KR.m) 1) E now w):=by
 have HE:=Lib.hid hE;have HK:=Lib.hid hK;have l1:1<K.length:=by omega
 have hlen:=BG v e0 K h4;have hone:=Bq v e0 K;have hse:(Af.enc E).toArray.size =2:=rfl;have hts:=Ft t h4t;have hto:=Hj t;have c10:=Ac4 t h4t;have c11:=Aj3 t h4t;have c13:=Aj4 t h4t;obtain⟨R,hR⟩: ∃R,R=EL t.set t.tm.v t.tm.s (BU (v,e0,K.map KR.m) 1) E.m E.l now:=⟨_,rfl⟩;have HR0:Hid (R=if BC E.m E.l (gt K 1).l (gt K 1).need then(if UW E.m then(if t.set&&(decide ((SD E.m).v <t.tm.v)||decide ((SD E.m).s <t.tm.s)) then 5 else if(SD E.m).e ≤now then 7 else 0) else 2) else 4):=Lib.hid (by
  rw[hR,MD v e0 K 1 l1,EL];by_cases hk:UW E.m=true
  ·rw[if_pos hk,if_pos hk,SD,if_pos hk];rfl
  rw[if_neg hk,if_neg hk];rfl)
 unfold Afk;rw[←hR];have HX:Hid (UW E.m=true→SD E.m=⟨mtV E.m,mtE E.m,SW E.m,UP E.m⟩):=Lib.hid (fun h=>by rw[SD,if_pos h]);clear hR hE hK;obtain⟨S,hS⟩: ∃S,S=t.set:=⟨_,rfl⟩;obtain⟨TV,hTV⟩: ∃x,x=t.tm.v:=⟨_,rfl⟩;obtain⟨TS',hTS⟩: ∃x,x=t.tm.s:=⟨_,rfl⟩;rw[←hS] at c10;rw[←hTV] at c11;rw[←hTS] at c13;rw[←hS,←hTV,←hTS] at HR0;clear hS hTV hTS;go_enter Tryz.func36,Tryz.ntmps36;go_wp2_with (first|(refine Bv 4 ?_;intro zt wzt _ _ _)|(refine Bv 5 ?_;intro zr wzr _ _ _)|(refine Bv 6 ?_;intro ze wze _ _ _)|(refine BB 8 ?_;intro zo wzo _ _ _)|((with_reducible apply Ac);exact rfl;infer_instance;(first|(exact rfl)|(exact tg_hw _)|(exact tg_ctr _)|(exact tg_ecu _)|(exact srch_who)|exact srch_fd)));have n0:Nw w wzo:=inferInstance;have hm0:HR wzo E.M (bs E.m):=⟨(Cc.nw (w:=wzo) HE.out).mr⟩;refine(Mb (b:=E.m) HE.out.ml HE.out.mc HE.out.mn).mono ?_;rintro e w5 hd;obtain⟨st5,he5⟩:=Acs.uniU hd;obtain⟨tm,htm⟩: ∃tm,tm=SD E.m:=⟨_,rfl⟩;rw[←htm] at he5 HR0 HX;obtain⟨f,hf⟩: ∃f:Int,f=if UW E.m then 0 else 2:=⟨_,rfl⟩;rw[←hf] at he5;subst he5;have HF:=Lib.hid hf;have hsz:=Ip tm;have hon:=SE tm;have d0:=Aj7 tm;have d1:=Aj8 tm;have d2:=Afj tm;clear hd htm hf hm0;have hzt5:HB w5 zt 42 (Fy t).toArray :=inferInstance;have hzr5:HB w5 zr 33 (BA v e0 K).toArray :=inferInstance;have hze5:HB w5 ze 58 (Af.enc E).toArray :=inferInstance;have hzo5:HB w5 zo 36 (BI 0 0 0 Aq).toArray :=inferInstance;have n5:Nw w w5:=inferInstance;obtain⟨B,hB⟩: ∃B,B=BC E.m E.l (gt K 1).l (gt K 1).need :=⟨_,rfl⟩;have HB0:=Lib.hid hB;clear hB;have HKI:Hid (BN w (gt K 1)):=Lib.hid (HK.out _ (BD K 1 l1));have h1:(1:Nat)<4:=by decide
 go_wp2_with (first|((with_reducible apply(Bu (dst:=some 21)));(with_reducible apply(CD (i:=1) (m:=4)));exact rfl;exact rfl;exact Tryz.underlying31;(kernel_rfl);exact h1)|((with_reducible apply(Bu (dst:=some 22)));(with_reducible apply(Ex (i:=1)));exact rfl;infer_instance;infer_instance;exact l1)|(refine BB 10 ?_;intro z10 wz10 _ _ _)|(refine Cp ?_)|(refine Bt ?_;intro ws _ _));have n6:Nw w ws:=inferInstance;have hE6:=Cc.nw (w:=ws) HE.out;have hm6:HR ws E.M (bs E.m):=⟨hE6.mr⟩;have ha6:HR ws E.A (cellsOf E.l):=⟨hE6.ar⟩;have hk6:HR ws (gt K 1).A (cellsOf (gt K 1).l):=⟨(BN.nw (w:=ws) HKI.out).rd⟩;clear hE6;refine(EH (m:=E.m) (l:=E.l) (ks:=(gt K 1).l) (gt K 1).need (fun r hr=>CC.nw (w0:=w) (w:=ws) (HE.out.marks r hr)) HE.out.al HE.out.an HE.out.ml HE.out.mn HKI.out.len (Nat.le_trans HKI.out.le (by decide))).mono ?_;rw[←HB0.out];rintro e w7 ⟨rfl,_⟩;have h10:HB w7 z10 36 tm.arr:=inferInstance;have hzt7:HB w7 zt 42 (Fy t).toArray :=inferInstance;have hzo7:HB w7 zo 36 (BI 0 0 0 Aq).toArray :=inferInstance;have hsz0:(BI 0 0 0 Aq).toArray.size =35:=Ip Agt;have n7:Nw w w7:=inferInstance;clear n5 n6 n0 hm6 ha6 hk6 hzr5 hze5 hzo5 hzt5;cases B with
 |false=>
  have HV:Hid (R=4):=Lib.hid (by rw[HR0.out,←HB0.out];rfl);go_wp2_with (first|(refine Cp ?_)|(refine Bt ?_;intro ws _ _));refine AA rfl rfl rfl (n:=35) hsz rfl ⟨Aa,tm,4,rfl,Lib.hid ⟨HV.out.symm,fun h=>by cases h⟩⟩
 |true=>
  by_cases hok:UW E.m=true
  ·have HF0:f=0:=by rw[HF.out,if_pos hok]
   subst HF0;have HX2:=Lib.hid (HX.out hok);have HR1:Hid (R=if S&&(decide (tm.v<TV)||decide (tm.s<TS')) then 5 else if tm.e≤now then 7 else 0):=Lib.hid (by rw[HR0.out,←HB0.out,if_pos hok];rfl);clear hok HR0 HF;have hcase:(S=true∧tm.v<TV)∨(S=true∧¬tm.v<TV∧tm.s<TS')∨(S=true∧¬tm.v<TV∧¬tm.s<TS')∨S=false:=by
    cases S
    ·exact .inr (.inr (.inr rfl))
    by_cases a:tm.v<TV
    ·exact .inl ⟨rfl,a⟩
    by_cases b:tm.s<TS'
    ·exact .inr (.inl ⟨rfl,a,b⟩)
    exact .inr (.inr (.inl ⟨rfl,a,b⟩))
   rcases hcase with⟨rfl,hv⟩|⟨rfl,hv,hs⟩|⟨rfl,hv,hs⟩|rfl
   ·have HV:Hid (R=5):=Lib.hid (by rw[HR1.out,decide_eq_true hv];rfl);have hvd:decide (tm.v<TV)=true:=decide_eq_true hv;go_wp2_with (first|go_skip|(refine WH 32 10 hzt7 c10 ?_)|(refine WH 35 0 h10 d0 ?_)|(refine WH 38 11 hzt7 c11 ?_)|(refine Ct ?_)|(refine CG ?_)|(refine Cp ?_)|(refine Bt ?_;intro ws _ _));refine AA rfl rfl rfl (n:=35) hsz rfl ⟨Aa,tm,5,rfl,Lib.hid ⟨HV.out.symm,fun h=>by cases h⟩⟩
   ·have HV:Hid (R=5):=Lib.hid (by rw[HR1.out,decide_eq_true hs,Bool.or_true];rfl);have hvd:decide (tm.v<TV)=false:=decide_eq_false hv;have hsd:decide (tm.s<TS')=true:=decide_eq_true hs;go_wp2_with (first|(refine WH 32 10 hzt7 c10 ?_)|(refine WH 35 0 h10 d0 ?_)|(refine WH 38 11 hzt7 c11 ?_)|(refine WH 42 2 h10 d2 ?_)|(refine WH 45 13 hzt7 c13 ?_)|(refine Ct ?_)|(refine CG ?_)|(refine Cp ?_)|(refine Bt ?_;intro ws _ _));refine AA rfl rfl rfl (n:=35) hsz rfl ⟨Aa,tm,5,rfl,Lib.hid ⟨HV.out.symm,fun h=>by cases h⟩⟩
   all_goals
    have HV:Hid (R=if tm.e≤now then 7 else 0):=Lib.hid (by
     rw[HR1.out]
     first
      |(rw[decide_eq_false hv,decide_eq_false hs];rfl)
      |rfl)
    have hvd: ¬tm.v<TV→decide (tm.v<TV)=false:=decide_eq_false;have hsd: ¬tm.s<TS'→decide (tm.s<TS')=false:=decide_eq_false
    try replace hvd:=hvd hv
    try replace hsd:=hsd hs
    by_cases hx:tm.e≤now
    ·have HW:Hid (R=7):=Lib.hid (by rw[HV.out,if_pos hx]);go_wp2_with (first|go_skip|(refine WH 32 10 hzt7 c10 ?_)|(refine WH 35 0 h10 d0 ?_)|(refine WH 38 11 hzt7 c11 ?_)|(refine WH 42 2 h10 d2 ?_)|(refine WH 45 13 hzt7 c13 ?_)|(refine WH 52 1 h10 d1 ?_)|(refine Ct ?_)|(refine CG ?_)|(refine Cp ?_)|(refine Bt ?_;intro ws _ _));refine AA rfl rfl rfl (n:=35) hsz rfl ⟨Aa,tm,7,rfl,Lib.hid ⟨HW.out.symm,fun h=>by cases h⟩⟩
    have HW:Hid (R=0):=Lib.hid (by rw[HV.out,if_neg hx]);go_wp2_with (first|go_skip|(refine WH 32 10 hzt7 c10 ?_)|(refine WH 35 0 h10 d0 ?_)|(refine WH 38 11 hzt7 c11 ?_)|(refine WH 42 2 h10 d2 ?_)|(refine WH 45 13 hzt7 c13 ?_)|(refine WH 52 1 h10 d1 ?_)|(refine Ct ?_)|(refine CG ?_)|(refine Cp ?_)|(refine Bt ?_;intro ws _ _));refine AA rfl rfl rfl (n:=35) hsz rfl ⟨Aa,tm,0,rfl,Lib.hid ⟨HW.out.symm,fun _=>HX2.out⟩⟩
  have HF2:f=2:=by rw[HF.out,if_neg hok]
  subst HF2;have HV:Hid (R=2):=Lib.hid (by rw[HR0.out,←HB0.out,if_neg hok];rfl);clear hok HR0 HF HX;go_wp2_with (first|(refine Cp ?_)|(refine Bt ?_;intro ws _ _));refine AA rfl rfl rfl (n:=35) hsz rfl ⟨Aa,tm,2,rfl,Lib.hid ⟨HV.out.symm,fun h=>by cases h⟩⟩
def ZI (w:World) (S:Nat→Prop) (K:List KR):Prop:=∀k∈K,BN w k∧∀x,Jw k.A k.l x→¬S x
theorem ZI.chg {S T:Nat→Prop} {w w':World} {K:List KR} (h:ZI w S K) (hc:Au T w w') (hT: ∀x,x<w.heap.size→T x→S x):ZI w' S K:=fun k hk=>⟨(h k hk).1.chg hc (fun x hx ht=>(h k hk).2 x hx (hT x ((h k hk).1.low x hx) ht)),(h k hk).2⟩
theorem ZI.of {w:World} {S:Nat→Prop} {K:List KR} (h: ∀k∈K,BN w k) (hS: ∀x,x<w.heap.size→¬S x):ZI w S K:=fun k hk=>⟨h k hk,fun x hx hs=>hS x ((h k hk).low x hx) hs⟩
theorem DV.firstS {w0 w1 w:World} [n:Ay w0 w1] {K:List KR} (h:DV w1 w K):DV w0 w K:=h.first n.out
theorem DV.passN {wc w w':World} [n:Nw w w'] {K:List KR} (h:DV wc w K):DV wc w' K:=h.chg n.out (fun _ h=>h.elim)
theorem DV.passZ {wc w w':World} {z:Nat} {t:TypeId} {cs:Array Value} [hz:HB wc z t cs] [c:Ag (only z) w w'] {K:List KR} (h:DV wc w K):DV wc w' K:=h.chg c.chg (fun x hx=>by have h':x=z:=hx;rw[h'];exact hz.out.lt)
theorem ZI.new {w0 w:World} {S:Nat→Prop} {K:List KR} (h:DV w0 w K) (hS: ∀x,w0.heap.size≤x→¬S x):ZI w S K:=fun k hk=>⟨(h k hk).1,fun x hx hs=>by
 obtain⟨_,ad,e,h2⟩:=hx;have h3:=(h k hk).2.out ad e;exact hS x (by omega) hs⟩
def Kh (O:Nat→Prop) (w:World):Nat→Prop:=fun x=>O x∨w.heap.size≤x
def Ac5 (O:Nat→Prop) (r:Fg) (L:List Em) (now:Int) (w:World):Ending→World→Prop:=fun e w'=>Ag Ab w w'∧∃v x K err,e= .returned (.tuple #[.agg (BA v x K).toArray, .int .i64 err])∧Hid (K.length=4∧((v,x,K.map KR.m),err)=CT r L now)∧Hid (∀k∈K,BN w' k∧KC (Kh O w) k.A (cellsOf k.l))
theorem SF {O:Nat→Prop} (v e0:Int) (K:List KR) (h4:K.length=4) {A:Option Addr} {n c:Nat} {L:List Em} (now:Int) {w:World} [hr:HR w A (cellsOf L)] (hK: ∀k∈K,BN w k) (hO: ∀k∈K,KC O k.A (cellsOf k.l)) (hL: ∀E∈L,Cc w E) (hl:L.length=n) (hmax:n≤9223372036854775807):
    Calls Tryz.prog 35 #[.agg (BA v e0 K).toArray, .slice A n c, .int .i64 now] w (Ac5 O (v,e0,K.map KR.m) L now w):=by
 have HK:=Lib.hid hK;have HO:=Lib.hid hO;have HL:=Lib.hid hL;have HLE:=Lib.hid hl;have HRR:=Lib.hid hr.out;have hlen:=BG v e0 K h4;have hone:=Bq v e0 K;obtain⟨r,hr0⟩: ∃r:Fg,r=(v,e0,K.map KR.m):=⟨_,rfl⟩;have HR0:=Lib.hid hr0;unfold Ac5;rw[←hr0];clear hK hO hL hr0;go_enter Tryz.func35,Tryz.ntmps35;go_wp2_with (first|(refine Bv 3 ?_;intro zr wzr _ _ _)|(refine BB 6 ?_;intro zo wzo _ _ _));have hzr:HB wzo zr 33 (BA v e0 K).toArray :=inferInstance;have hzo:HB wzo zo 33 (BA 0 0 DJ).toArray :=inferInstance;have hbr:w.heap.size≤zr:=Nat.le_of_eq (inferInstance:AW w zr).eq.symm;have hbo:w.heap.size≤zo:=by
  have h1:=(inferInstance:AW wzr zo).eq;have h2:=(inferInstance:Ay w wzr).out;omega
 have hro:zr≠zo:=fun e=>by
  have h1:=(inferInstance:AW wzr zo).eq;have h2:=(inferInstance:HB wzr zr 33 (BA v e0 K).toArray).out.lt;omega
 have orz:As (only zr) zo:=⟨fun e=>hro (show zo=zr from e).symm⟩;have ozr:As (only zo) zr:=⟨fun e=>hro (show zr=zo from e)⟩;have azr:Cn w (only zr):=⟨fun k h=>by have h':k=zr:=h;omega⟩;have azo:Cn w (only zo):=⟨fun k h=>by have h':k=zo:=h;omega⟩;have hst:Ag Ab w wzo:=Aa;have hKP:Hid (ZI wzo (GE zr zo) K∧∀k∈K,KC (Kh O w) k.A (cellsOf k.l)):=Lib.hid ⟨(ZI.of (S:=GE zr zo) HK.out (fun x hx h=>by rcases h with h|h<;>omega)).chg hst.chg (fun _ _ h=>h.elim),fun k hk=>(HO.out k hk).mono (fun _ h=> .inl h)⟩;go_loopw [8] (fun iv wr=>∃(k:Nat) (v1 x1:Int) (K1:List KR),k≤n∧iv= .int .i64 (k:Int)∧Ag Ab w wr∧HB wr zr 33 (BA v1 x1 K1).toArray ∧HB wr zo 33 (BA 0 0 DJ).toArray ∧Hid (K1.length=4∧CS r L=CS (v1,x1,K1.map KR.m) (L.drop k))∧Hid (ZI wr (GE zr zo) K1∧∀k∈K1,KC (Kh O w) k.A (cellsOf k.l))) (fun iv _=>n -(intOf iv).toNat)
 case atStart=>exact⟨0,v,e0,K,Nat.zero_le _,rfl,hst,hzr,hzo,Lib.hid ⟨h4,by rw[HR0.out];rfl⟩,hKP⟩
 case round=>
  clear hzr hzo hKP hst;obtain⟨k,v1,x1,K1,hk,rfl,st,hz,ho,NH,hKs⟩:=hrel;have nr:Nw w wr:=⟨st.chg⟩;have hl1:=BG v1 x1 K1 NH.out.1;have ho1:=Bq v1 x1 K1;have hrA:HR wr A (cellsOf L):=nr.hrR HRR.out;have hzl:=hz.out.lt;have hol:=ho.out.lt;by_cases hlt:k<n
  ·have hltI:(k:Int)<n:=by omega
   have hkl:k<L.length:=by rw[HLE.out];exact hlt
   have HEI:Hid (Cc w (gt L k)):=Lib.hid (HL.out _ (BD L k hkl));have hse:(Af.enc (gt L k)).toArray.size =2:=rfl;have hoe:=AY (gt L k);have hLL:L.length=n:=HLE.out;go_wp2_with (first|(refine XG 24 Em k 0 2 hrA hkl (ZU _) ?_)|(refine Ja Em 54 ?_)|(refine SX 58 Tryz.underlying58 ?_));have hmr:HR wr (gt L k).M (bs (gt L k).m):=⟨(Cc.nw (w:=wr) HEI.out).mr⟩;refine(Hh (b:=(gt L k).m) HEI.out.ml HEI.out.mc HEI.out.mn).mono ?_;rintro e w5 ⟨st5,v2,x2,K2,err2,rfl,hK2,_⟩;have hl2:=BG v2 x2 K2 hK2.out.1;have ho2:=Bq v2 x2 K2;have hz5:HB w5 zr 33 (BA v1 x1 K1).toArray :=inferInstance;have ho5:HB w5 zo 33 (BA 0 0 DJ).toArray :=inferInstance;have n5:Nw wr w5:=inferInstance;have hrA5:HR w5 A (cellsOf L):=inferInstance;clear hmr;by_cases hsk:EP (gt L k).m =true∧(Pt (gt L k).m :Int)≤v1
   ·have hm:=hK2.out.2;rw[ZG,if_pos hsk.1] at hm;obtain⟨hv2,hq⟩:=Prod.mk.inj hm;have he2:err2=0:=(Prod.mk.inj (Prod.mk.inj hq).2).2;subst he2;have hle:v2≤v1:=by rw[hv2];exact hsk.2
    have HD:Hid (K1.length=4∧CS r L=CS (v1,x1,K1.map KR.m) (L.drop (k+1))):=Lib.hid ⟨NH.out.1,by
     rw[NH.out.2,GZ L k hkl,CS,hsk.1,decide_eq_true hsk.2];rfl⟩
    clear hm hv2 hq hsk;go_wp2_with (first|(refine BB 9 ?_;intro zx wzx _ _ _)|(refine Ct ?_)|(refine CG ?_)|((with_reducible apply Ac);exact rfl;infer_instance;(first|(exact rfl)|(exact tg_hw _)|(exact tg_ctr _)|(exact tg_ecu _)|(exact srch_who)|exact srch_fd))|(refine Bt ?_;intro ws _ _));exact⟨⟨k+1,v1,x1,K1,by omega,by go_num,Aa,inferInstance,inferInstance,HD,Lib.hid ⟨hKs.out.1.chg (Aa (w0:=wr)).chg (fun _ _ h=>h.elim),hKs.out.2⟩⟩,by simp[intOf];omega⟩
   have hcase:(err2=2)∨(err2=0∧v1<v2):=by
     have hm:=hK2.out.2;by_cases hok:EP (gt L k).m =true
     ·rw[ZG,if_pos hok] at hm;obtain⟨hv2,hq⟩:=Prod.mk.inj hm;refine .inr ⟨(Prod.mk.inj (Prod.mk.inj hq).2).2, ?_⟩;rw[hv2];exact Int.not_le.1 (fun h=>hsk ⟨hok,h⟩)
     rw[ZG,if_neg hok] at hm;exact .inl (Prod.mk.inj (Prod.mk.inj (Prod.mk.inj hm).2).2).2
   obtain⟨N,hN⟩: ∃N,N=Gi (v1,x1,K1.map KR.m) (gt L k).m (gt L k).l :=⟨_,rfl⟩;have HN:=Lib.hid hN;have HD:Hid (CS r L=if N.2.2.2=0 then CS (N.1,N.2.1,N.2.2.1) (L.drop (k+1)) else((v1,x1,K1.map KR.m),N.2.2.2)):=Lib.hid (by
    have hsb:(EP (gt L k).m &&decide ((Pt (gt L k).m :Int)≤v1))=false:=by
     rw[Bool.and_eq_false_iff];by_cases hok:EP (gt L k).m =true
     ·exact .inr (decide_eq_false (fun h=>hsk ⟨hok,h⟩))
     exact .inl (by simpa using hok)
    rw[NH.out.2,GZ L k hkl,CS];show(if(EP (gt L k).m &&decide ((Pt (gt L k).m :Int)≤v1))=true then _ else _)=_;rw[hsb,if_neg (by decide),←hN])
   clear hsk hN;rcases hcase with h2|⟨h2,hv⟩
   focus
    subst h2;go_wp2_with (first|(refine BB 9 ?_;intro zx wzx _ _ _)|(refine Bt ?_;intro ws _ _))
   rotate_left
   focus
    subst h2;have hvI: ¬v2≤v1:=by omega
    go_wp2_with (first|(refine BB 9 ?_;intro zx wzx _ _ _)|(refine Ct ?_)|(refine CG ?_)|((with_reducible apply Ac);exact rfl;infer_instance;(first|(exact rfl)|(exact tg_hw _)|(exact tg_ctr _)|(exact tg_ecu _)|(exact srch_who)|exact srch_fd))|(refine Bt ?_;intro ws _ _))
   rotate_left
   all_goals
    have hzx:HB ws zr 33 (BA v1 x1 K1).toArray :=inferInstance;have hox:HB ws zo 33 (BA 0 0 DJ).toArray :=inferInstance;have hrx:HR ws A (cellsOf L):=inferInstance;have nx:Nw wr ws:=inferInstance;have hEx:=Cc.nw (w0:=w) (w:=ws) HEI.out;have hKx:Hid (∀x∈K1,BN ws x):=Lib.hid (fun x hx=>BN.nw (w0:=wr) (hKs.out.1 x hx).1);have HEX:=Lib.hid hEx;have hszx:wr.heap.size≤ws.heap.size:=nx.out.size;obtain⟨wq,hwq⟩: ∃wq:World,wq=ws:=⟨_,rfl⟩;subst hwq;clear hEx hz ho hz5 ho5 hrA hrA5;refine Ah (Ab) (by kernel_rfl) (fun wd _ _=> ?_);refine KW 0 ?_;refine YS 1 ?_;refine YS 2 ?_;refine Gx 3 Em 54 ?_;refine Vc 4 Em 58 ?_;refine wpAnyH_ready (rs:=[5,9]) (by kernel_rfl) (by simp) (AllReadyH.cons rfl (fun K_ hK_=> ?_) (AllReadyH.cons rfl (fun K_ hK_=> ?_) AllReadyH.nil))
    focus
     go_simp;refine(MN v1 x1 K1 NH.out.1 (gt L k) (fun x hx=>BN.nw (w0:=wq) (hKx.out x hx)) (Cc.nw (w0:=wq) HEX.out)).mono ?_;rintro e w6 ⟨st6,v3,x3,K3,err3,rfl,hK3,hKs3⟩;have hl3:=BG v3 x3 K3 hK3.out.1;have ho3:=Bq v3 x3 K3;refine Yz hK_ ?_;clear hK_ K_;refine YS 6 ?_;refine YS 7 ?_;refine YS 8 ?_;refine Yh 9 fun K_ hK_=> ?_
     (refine BB 11 ?_;intro zy wzy _ _ _)
     refine Yn hK_ ?_;clear hK_ K_;refine Yh 10 fun K_ hK_=> ?_
     (refine Bt ?_;intro ws _ _)
     refine Ym hK_ ?_;clear hK_ K_;refine YS 11 ?_;refine Yd ?_
    rotate_left 1
    focus
     refine Yq ?_
     (refine BB 11 ?_;intro zy wzy _ _ _)
     refine Yn hK_ ?_;clear hK_ K_;refine Yg 5 fun K_ hK_=> ?_
     go_simp;refine(MN v1 x1 K1 NH.out.1 (gt L k) (fun x hx=>BN.nw (w0:=wq) (hKx.out x hx)) (Cc.nw (w0:=wq) HEX.out)).mono ?_;rintro e w6 ⟨st6,v3,x3,K3,err3,rfl,hK3,hKs3⟩;have hl3:=BG v3 x3 K3 hK3.out.1;have ho3:=Bq v3 x3 K3;refine Yz hK_ ?_;clear hK_ K_;refine YS 6 ?_;refine YS 7 ?_;refine YS 8 ?_;refine Yh 10 fun K_ hK_=> ?_
     (refine Bt ?_;intro ws _ _)
     refine Ym hK_ ?_;clear hK_ K_;refine YS 11 ?_;refine Yd ?_
    rotate_left 1
    all_goals
     have hz6:HB ws zr 33 (BA v1 x1 K1).toArray :=inferInstance;have ho6:HB ws zo 33 (BA 0 0 DJ).toArray :=inferInstance;have hy6:HB ws zy 33 (BA v3 x3 K3).toArray :=inferInstance;have hKs4:Hid (DV wq ws K3):=Lib.hid (by
      first
       |exact DV.firstS (DV.passN hKs3.out)
       |exact DV.firstS (DV.passZ (z:=zy) hKs3.out))
     have nq:Nw wq ws:=inferInstance;have hE3:Hid (N.2.2.2=err3∧(N.1,N.2.1,N.2.2.1)=(v3,x3,K3.map KR.m)):=Lib.hid (by
      rw[HN.out,←hK3.out.2];exact⟨rfl,rfl⟩)
     have hK6:Hid (ZI ws (GE zr zo) K3∧∀k∈K3,KC (Kh O w) k.A (cellsOf k.l)):=Lib.hid ⟨ZI.new (S:=GE zr zo) hKs4.out (fun x hx h=>by rcases h with h|h<;>omega),fun k hk _ ad e=> .inr (by
      have h1:=(hKs4.out k hk).2.out ad e;have h2:=nr.out.size;omega)⟩
     by_cases he:err3=0
     ·have HD2:Hid (K3.length=4∧CS r L=CS (v3,x3,K3.map KR.m) (L.drop (k+1))):=Lib.hid ⟨hK3.out.1,by rw[HD.out,hE3.out.1,if_pos he,hE3.out.2]⟩;subst he;go_wp2_with (first|(refine Cp ?_)|(refine Bt ?_;intro ws _ _));have hc7:Au (only zr) wq ws:=(inferInstance:Ch (only zr) wq ws).out;refine⟨⟨k+1,v3,x3,K3,by omega,by go_num,Aa,inferInstance,inferInstance,HD2,Lib.hid ⟨?_,hK6.out.2⟩⟩,by simp[intOf];omega⟩;exact(hK6.out.1).chg (inferInstance:Ag (only zr) _ ws).chg (fun _ _ h=> .inl h)
     have HV:Hid (CT r L now=((v1,x1,K1.map KR.m),err3)):=Lib.hid (by
       have h9:CS r L=((v1,x1,K1.map KR.m),err3):=by rw[HD.out,hE3.out.1,if_neg he]
       rw[CT,h9];show(if err3=0 then _ else _)=_;rw[if_neg he])
     have heI:(err3 !=0)=true:=by simp[he]
     have heJ:err3<0∨0<err3:=by omega
     clear he;go_wp2_with (first|(refine Cp ?_)|(refine Bt ?_;intro ws _ _));refine AA rfl rfl rfl (n:=10) hl1 rfl ⟨Aa,v1,x1,K1,err3,rfl,Lib.hid ⟨NH.out.1,HV.out.symm⟩,Lib.hid (fun x hx=>⟨?_,hKs.out.2 x hx⟩)⟩;exact((hKs.out.1.chg (inferInstance:Nw wr wq).out (fun _ _ h=>h.elim)).chg (inferInstance:Ch (only zo) wq ws).out (fun _ _ h=> .inr h) x hx).1
  have hltI: ¬(k:Int)<n:=by omega
  have hRL:Hid (CS r L=((v1,x1,K1.map KR.m),0)):=Lib.hid (by
   rw[NH.out.2,List.drop_of_length_le (by rw[HLE.out];omega),CS])
  by_cases hx:x1≤now
  ·have HV:Hid (CT r L now=((v1,x1,K1.map KR.m),7)):=Lib.hid (by
     rw[CT,hRL.out,if_pos rfl,if_pos hx])
   go_wp2_with (first|(refine Cp ?_)|((with_reducible apply Ac);exact rfl;infer_instance;(first|(exact rfl)|(exact tg_hw _)|(exact tg_ctr _)|(exact tg_ecu _)|(exact srch_who)|exact srch_fd))|(refine Bt ?_;intro ws _ _));refine AA rfl rfl rfl (n:=10) hl1 rfl ⟨Aa,v1,x1,K1,7,rfl,Lib.hid ⟨NH.out.1,HV.out.symm⟩,Lib.hid (fun x hx=>⟨?_,hKs.out.2 x hx⟩)⟩;exact(hKs.out.1.chg (inferInstance:Ch (only zo) wr ws).out (fun _ _ h=> .inr h) x hx).1
  have HV:Hid (CT r L now=((v1,x1,K1.map KR.m),0)):=Lib.hid (by
    rw[CT,hRL.out,if_pos rfl,if_neg hx])
  go_wp2_with (first|(refine Cp ?_)|((with_reducible apply Ac);exact rfl;infer_instance;(first|(exact rfl)|(exact tg_hw _)|(exact tg_ctr _)|(exact tg_ecu _)|(exact srch_who)|exact srch_fd))|(refine Bt ?_;intro ws _ _));refine AA rfl rfl rfl (n:=10) hl1 rfl ⟨Aa,v1,x1,K1,0,rfl,Lib.hid ⟨NH.out.1,HV.out.symm⟩,Lib.hid (fun x hx=>⟨?_,hKs.out.2 x hx⟩)⟩;exact(hKs.out.1.chg (inferInstance:Ch (only zo) wr ws).out (fun _ _ h=> .inr h) x hx).1
end Go.Proofs.YtjjhceeookpieaaGreat
end
section
set_option maxRecDepth 100000
set_option maxHeartbeats 6400000
open Go Go.RowKit
namespace Go.Proofs.YtjjhceeookpieaaGreat
theorem Ac6 (t:Kj):(t.arr.toList.drop 3).take 32=bs t.h.l:=by
 show((bs t.h.l)).take 32=_;rw[List.take_of_length_le (by rw[Am,t.h.len];exact Nat.le_refl _)]
section
variable {P:Program} {a:Act} {w:World} {dst:Option Tmp} {ty:TypeId} {pos:String} {after:Array Edge} {gd:Option (Nat×Bool)}
theorem SG {t:TypeId} {x:Operand} {g k:Nat} (hx:a.eval x= .pointer (some ⟨g,k,none⟩)) {tb:TypeId} {cs:Array Value} (hb:HB w g tb cs) (ht:Cl P t 32) {hh:Ak} (hv:(cs.toList.drop k).take 32=bs hh.l):
    (execOp a.eval ⟨dst, .load t x,ty,pos,after,gd⟩).run P w= .ok (.value (.agg (Aw hh.l))) w:=Ew hx hb ht (by decide) hv (by rw[Am,hh.len])
end
def Afl (set:Bool) (sp:List AE) (k:List Ak×Int) (ts:Int) (th:Ak) (E:Em) (now:Int) (w:World):Ending→World→Prop:=fun e w'=>Ag Ab w w'∧∃v x A n c P,∃err:Int,e= .returned (.tuple #[.agg #[.int .i64 v, .int .i64 x, .slice A n c], .int .i64 err])∧Hid ((err=Fu set sp k ts th E.m E.l now∧(err=0→Gf E.m=true∧v=(Qc E.m:Int)∧x=(Qd E.m:Int)∧P=KY E.m))∧P.length=n∧n≤c∧n≤16)∧Hid (Rd w' A (cellsOf P))∧Aj w A
theorem UM {O:Nat→Prop} (t:Jf) (v e0:Int) (K:List KR) (tm:Kj) (E:Em) (now:Int) {w:World} (ht:Fz O w t) (h4:K.length=4) (hK: ∀k∈K,BN w k) (hE:Cc w E):
    Calls Tryz.prog 37 #[.agg (Fy t).toArray, .agg (BA v e0 K).toArray, .agg tm.arr, .agg (Af.enc E).toArray, .int .i64 now] w (Afl t.set t.P (BU (v,e0,K.map KR.m) 2) tm.s tm.h E now w):=by
 have HE:=Lib.hid hE;have HK:=Lib.hid hK;have HT:=Lib.hid ht;have h4t:=ht.k4;have l2:2<K.length:=by omega
 have hlen:=BG v e0 K h4;have hone:=Bq v e0 K;have hse:(Af.enc E).toArray.size =2:=rfl;have hts:=Ft t h4t;have hto:=Hj t;have hms:=Ip tm;have hmo:=SE tm;have d2:=Afj tm;have c10:=Ac4 t h4t;have c48:=Aj5 t h4t;have hpl:=ht.pl;have hp9:=ht.p9;have HPR:Hid (Rd w t.A (cellsOf t.P)):=Lib.hid ht.pr;have HPOS:=Lib.hid ht.pos;obtain⟨H,hH⟩: ∃H:Ak,H=Gw E.m:=⟨_,rfl⟩;obtain⟨q,hq⟩: ∃q:Bool,q= !decide (H=tm.h):=⟨_,rfl⟩;have hneq: ∀w,(binOp .neq 23 (.agg (Aw H.l)) (.agg (Aw tm.h.l))).run Tryz.prog w= .ok (.bool q) w:=fun w=>by rw[Al2,hq]
 obtain⟨R,hR⟩: ∃R,R=Fu t.set t.P (BU (v,e0,K.map KR.m) 2) tm.s tm.h E.m E.l now:=⟨_,rfl⟩;have HR0:Hid (R=if q=false then(if BC E.m E.l (gt K 2).l (gt K 2).need then(if Gf E.m then(if(Qc E.m:Int)=tm.s then(if t.set&&FX t.P (KY E.m) then 5 else if(Qd E.m:Int)≤now then 7 else 0) else 6) else 2) else 4) else 8):=Lib.hid (by
  rw[hR,MD v e0 K 2 l2,Fu,←hH,hq];by_cases h:H=tm.h
  ·have hd:(!decide (H=tm.h))=false:=by rw[decide_eq_true h];rfl
   rw[if_pos h,if_pos hd];rfl
  have hd: ¬(!decide (H=tm.h))=false:=by rw[decide_eq_false h];decide
  rw[if_neg h,if_neg hd])
 unfold Afl;rw[←hR];have HHL:Hid (H=Gw E.m):=Lib.hid hH;have HQ:=Lib.hid hq;clear hR hE hK ht hH hq;go_enter Tryz.func37,Tryz.ntmps37;go_wp2_with (first|(refine Bv 5 ?_;intro zt wzt _ _ _)|(refine Bv 6 ?_;intro zr wzr _ _ _)|(refine Bv 7 ?_;intro zm wzm _ _ _)|(refine Bv 8 ?_;intro ze wze _ _ _)|(refine BB 10 ?_;intro zo wzo _ _ _)|((with_reducible apply Ac);exact rfl;infer_instance;(first|(exact rfl)|(exact tg_hw _)|(exact tg_ctr _)|(exact tg_ecu _)|(exact srch_who)|exact srch_fd)));have n0:Nw w wzo:=inferInstance;have hszo:w.heap.size≤wzo.heap.size:=n0.out.size;have hm0:HR wzo E.M (bs E.m):=⟨(Cc.nw (w:=wzo) HE.out).mr⟩;refine(LN (b:=E.m) HE.out.ml HE.out.mc HE.out.mn).mono ?_;rintro e w5 ⟨st5,v1,x1,A1,n1,c1,P1,err1,rfl,hP1,hrd1,hA1⟩;have n5:Nw w w5:=inferInstance;have hzt5:HB w5 zt 42 (Fy t).toArray :=inferInstance;have hzr5:HB w5 zr 33 (BA v e0 K).toArray :=inferInstance;have hzm5:HB w5 zm 36 tm.arr:=inferInstance;have hze5:HB w5 ze 58 (Af.enc E).toArray :=inferInstance;have hzo5:HB w5 zo 39 #[.int .i64 0, .int .i64 0, .slice none 0 0]:=inferInstance;have hA1w:Aj w A1:=⟨fun ad e=>Nat.le_trans hszo (hA1.out ad e)⟩;have HPM:Hid ((v1,x1,P1,err1)=snM E.m):=Lib.hid hP1.out.1;have HP2:Hid (P1.length=n1∧n1≤c1∧n1≤16):=Lib.hid hP1.out.2;have hl1:P1.length=n1:=HP2.out.1;have hn16:n1≤16:=HP2.out.2.2;clear hP1 hm0;go_wp2_with (first|(refine BB 12 ?_;intro zx wzx _ _ _)|(refine Bt ?_;intro ws _ _));have hx0:HB ws zx 39 #[.int .i64 v1, .int .i64 x1, .slice A1 n1 c1]:=inferInstance;have h7:HB ws zm 36 tm.arr:=inferInstance;have hze6:HB ws ze 58 (Af.enc E).toArray :=inferInstance;have nx:Nw w ws:=inferInstance;have HEX:=Lib.hid (Cc.nw (w:=ws) HE.out);have hm6:HR ws E.M (bs E.m):=⟨HEX.out.mr⟩;have hAz: ∀ad,A1=some ad→ad.block≠zo:=fun ad e h=>by
  have h1:=hA1.out ad e;have h2:=(inferInstance:HB wzo zo 39 #[.int .i64 0, .int .i64 0, .slice none 0 0]).out.lt;omega
 have hzoS:HB ws zo 39 #[.int .i64 0, .int .i64 0, .slice none 0 0]:=inferInstance;obtain⟨wq,hwq⟩: ∃wq:World,wq=ws:=⟨_,rfl⟩;subst hwq;have hrdq:Hid (Rd wq A1 (cellsOf P1)):=Lib.hid (hrd1.out.chg (Aa (w0:=w5)).chg (fun _ _ _ h=>h));have hztq:HB wq zt 42 (Fy t).toArray :=inferInstance;have hzrq:HB wq zr 33 (BA v e0 K).toArray :=inferInstance;clear hrd1 hzt5 hzr5 hzm5 hze5 hzo5 n5 n0;refine Ah (Ab) (by kernel_rfl) (fun wd _ _=> ?_);refine YS 0 ?_;refine' tk 1 _ rfl (by kernel_rfl) (by kernel_rfl) (by kernel_rfl) (fun _ _ _ h=>h) (yo (by rfl) fun w' _=> ?_) inferInstance ?_;rotate_left
 ·((apply Ai);exact rfl;infer_instance;infer_instance;(first|(exact rfl)|(exact tg_hw _)|(exact tg_ctr _)|(exact tg_ecu _)|(exact srch_who)|exact srch_fd))
 try simp only[Act.put,sA,sB,sC]
 refine YS 3 ?_;refine' tk 4 _ rfl (by kernel_rfl) (by kernel_rfl) (by kernel_rfl) (fun _ _ _ h=>h) (yo (by rfl) fun w' _=> ?_) inferInstance ?_;rotate_left
 ·((apply(SG (k:=3)));exact rfl;infer_instance;infer_instance;exact Ac6 tm)
 try simp only[Act.put,sA,sB,sC]
 refine Yg 2 fun K_ hK_=> ?_
 go_simp;refine(Nn (xs:=E.m) HE.out.ml HE.out.mn).mono ?_;rw[←HHL.out];rintro e w6 ⟨rfl,_⟩;refine Yz hK_ ?_;clear hK_ K_;refine YS 5 ?_;refine YS 6 ?_;refine Yd ?_;obtain⟨B,hB⟩: ∃B,B=BC E.m E.l (gt K 2).l (gt K 2).need :=⟨_,rfl⟩;have HB0:=Lib.hid hB;have hzx6:HB w6 zx 39 #[.int .i64 v1, .int .i64 x1, .slice A1 n1 c1]:=inferInstance;have hzo6:HB w6 zo 39 #[.int .i64 0, .int .i64 0, .slice none 0 0]:=inferInstance;have hzt6:HB w6 zt 42 (Fy t).toArray :=inferInstance;have hzr6:HB w6 zr 33 (BA v e0 K).toArray :=inferInstance;have hzm6:HB w6 zm 36 tm.arr:=inferInstance;have hze7:HB w6 ze 58 (Af.enc E).toArray :=inferInstance;have n6:Nw w w6:=inferInstance;have nq6:Nw wq w6:=inferInstance;have hrd6:Hid (Rd w6 A1 (cellsOf P1)):=Lib.hid (hrdq.out.chg nq6.out (fun _ _ _ h=>h));clear hB hneq HQ hx0 h7 hze6 hm6 hzoS hztq hzrq hrdq;cases q with
 |true=>
  have HV:Hid (R=8):=Lib.hid (by rw[HR0.out];rfl);go_wp2_with (first|(refine Cp ?_)|(refine Bt ?_;intro ws _ _));refine AA rfl rfl rfl (n:=3) rfl rfl ⟨Aa,v1,x1,A1,n1,c1,P1,8,rfl,Lib.hid ⟨⟨HV.out.symm,fun h=>by cases h⟩,HP2.out⟩,Lib.hid (hrd6.out.chg (inferInstance:Ch (only zo) w6 ws).out (fun _ ad e h=>hAz ad e h)),hA1w⟩
 |false=>
  have HKI:Hid (BN w (gt K 2)):=Lib.hid (HK.out _ (BD K 2 l2));have h2:(2:Nat)<4:=by decide
  go_wp2_with (first|((with_reducible apply(Bu (dst:=some 32)));(with_reducible apply(CD (i:=2) (m:=4)));exact rfl;exact rfl;exact Tryz.underlying31;(kernel_rfl);exact h2)|((with_reducible apply(Bu (dst:=some 33)));(with_reducible apply(Ex (i:=2)));exact rfl;exact hzr6;infer_instance;exact l2)|(refine Cp ?_));have hE6:=Cc.nw (w:=w6) HE.out;have hm7:HR w6 E.M (bs E.m):=⟨hE6.mr⟩;have ha7:HR w6 E.A (cellsOf E.l):=⟨hE6.ar⟩;have hk7:HR w6 (gt K 2).A (cellsOf (gt K 2).l):=⟨(BN.nw (w:=w6) HKI.out).rd⟩;clear hE6;refine(EH (m:=E.m) (l:=E.l) (ks:=(gt K 2).l) (gt K 2).need (fun r hr=>CC.nw (w0:=w) (w:=w6) (HE.out.marks r hr)) HE.out.al HE.out.an HE.out.ml HE.out.mn HKI.out.len (Nat.le_trans HKI.out.le (by decide))).mono ?_;rw[←HB0.out];rintro e w7 ⟨rfl,_⟩;have hzx7:HB w7 zx 39 #[.int .i64 v1, .int .i64 x1, .slice A1 n1 c1]:=inferInstance;have hzo7:HB w7 zo 39 #[.int .i64 0, .int .i64 0, .slice none 0 0]:=inferInstance;have hzt7:HB w7 zt 42 (Fy t).toArray :=inferInstance;have hzm7:HB w7 zm 36 tm.arr:=inferInstance;have n7:Nw w w7:=inferInstance;have hrd7:Hid (Rd w7 A1 (cellsOf P1)):=Lib.hid (hrd6.out.chg (inferInstance:Nw w6 w7).out (fun _ _ _ h=>h));clear hm7 ha7 hk7 hzx6 hzo6 hzt6 hzr6 hzm6 hze7 n6 nq6 hrd6;cases B with
  |false=>
   have HV:Hid (R=4):=Lib.hid (by rw[HR0.out,←HB0.out];rfl);go_wp2_with (first|(refine Cp ?_)|(refine Bt ?_;intro ws _ _));refine AA rfl rfl rfl (n:=3) rfl rfl ⟨Aa,v1,x1,A1,n1,c1,P1,4,rfl,Lib.hid ⟨⟨HV.out.symm,fun h=>by cases h⟩,HP2.out⟩,Lib.hid (hrd7.out.chg (inferInstance:Ch (only zo) w7 ws).out (fun _ ad e h=>hAz ad e h)),hA1w⟩
  |true=>
   by_cases hok:Gf E.m=true
   ·have hm:=HPM.out;rw[snM,if_pos hok] at hm;obtain⟨hv1,hq1⟩:=Prod.mk.inj hm;obtain⟨hx1,hq2⟩:=Prod.mk.inj hq1;obtain⟨hp1,he1⟩:=Prod.mk.inj hq2;subst he1;have HR1:Hid (R=if v1=tm.s then(if t.set&&FX t.P P1 then 5 else if x1≤now then 7 else 0) else 6):=Lib.hid (by
     rw[HR0.out,←HB0.out,if_pos hok,←hv1,←hx1,←hp1];rfl)
    have HOKK:Hid (Gf E.m=true∧v1=(Qc E.m:Int)∧x1=(Qd E.m:Int)∧P1=KY E.m):=Lib.hid ⟨hok,hv1,hx1,hp1⟩;clear hok hm hv1 hq1 hx1 hq2 hp1 HR0 HPM;by_cases hv:v1=tm.s
    ·have HR2:Hid (R=if t.set&&FX t.P P1 then 5 else if x1≤now then 7 else 0):=Lib.hid (by rw[HR1.out,if_pos hv]);have hvI:(v1 !=tm.s)=false:=by simp[hv]
     clear hv HR1;go_wp2_with (first|(refine WH 45 2 hzm7 d2 ?_)|((with_reducible apply Ac);exact rfl;infer_instance;(first|(exact rfl)|(exact tg_hw _)|(exact tg_ctr _)|(exact tg_ecu _)|(exact srch_who)|exact srch_fd)));go_loopw [14] (fun iv wr=>∃k:Nat,k≤t.n∧iv= .int .i64 (k:Int)∧Ag Ab w7 wr∧HB wr zx 39 #[.int .i64 v1, .int .i64 x1, .slice A1 n1 c1]∧HB wr zo 39 #[.int .i64 0, .int .i64 0, .slice none 0 0]∧HB wr zt 42 (Fy t).toArray ∧Hid (FX t.P P1=FX (t.P.drop k) P1)) (fun iv _=>t.n -(intOf iv).toNat)
     case atStart=>exact⟨0,Nat.zero_le _,rfl,Aa,hzx7,hzo7,hzt7,Lib.hid rfl⟩
     case round=>
      clear hzx7 hzo7 hzt7 hzm7;obtain⟨k,hk,rfl,st,hzx,hzo,hzt,HD⟩:=hrel;have nr7:Nw w7 wr:=⟨st.chg⟩;have nr:Nw w wr:=⟨n7.out.trans st.chg (fun _ _ h=>h)⟩;have hrdr:Hid (Rd wr A1 (cellsOf P1)):=Lib.hid (hrd7.out.chg st.chg (fun _ _ _ h=>h));have hrp:HR wr t.A (cellsOf t.P):=nr.hrR HPR.out;have hr1:HR wr A1 (cellsOf P1):=⟨hrdr.out⟩;by_cases hgo:k<t.n∧t.set=true
      ·obtain⟨hlt,hset⟩:=hgo;have hltI:(k:Int)<t.n:=by omega
       have hkl:k<t.P.length:=by omega
       rw[hset] at c10;obtain⟨pv,hpv⟩: ∃pv,pv=(Dy P1 (gt t.P k).l).getD 0:=⟨_,rfl⟩;have HF:Hid (FX t.P P1=if pv<(gt t.P k).v then true else FX (t.P.drop (k+1)) P1):=Lib.hid (by
        rw[HD.out,WF t.P P1 k hkl,UR (HPOS.out hset _ (BD t.P k hkl)),←hpv];by_cases h:pv<(gt t.P k).v
        ·rw[if_pos h,decide_eq_true h,if_pos rfl]
        rw[if_neg h,decide_eq_false h,if_neg (by decide)])
       have HPV:=Lib.hid hpv;clear hpv;go_wp2_with (first|(refine WH 51 48 hzt c48 ?_)|(refine WH 56 10 hzt c10 ?_)|(refine Ct ?_)|(refine CG ?_));by_cases hf:pv<(gt t.P k).v
       ·have HV:Hid (R=5):=Lib.hid (by rw[HR2.out,hset,HF.out,if_pos hf];rfl);refine Ah (Ab) (by kernel_rfl) (fun wd _ _=> ?_);refine KW 0 ?_;refine YS 1 ?_;refine YS 2 ?_;refine IS 3 48 c48 ?_;refine YS 4 ?_;refine Gx 5 AE 37 ?_;refine Jh 6 101 Tryz.underlying101 ?_;refine YLG 7 AE k 0 2 hkl (LK _) ?_;refine YS 9 ?_;refine YS 10 ?_;refine IS 11 48 c48 ?_;refine YS 12 ?_;refine Gx 13 AE 37 ?_;refine Jh 14 101 Tryz.underlying101 ?_;refine YLG 15 AE k 1 2 hkl (Sm _) ?_;refine Yg 8 fun K_ hK_=> ?_
        go_simp;refine(IL v1 x1 (P:=P1) (gt t.P k).l hl1 (by omega)).mono ?_;rw[←HPV.out];rintro e w8 ⟨rfl,_⟩;refine Yz hK_ ?_;clear hK_ K_;refine YS 16 ?_;refine Yd ?_;go_wp2_with (first|(refine Cp ?_)|(refine Bt ?_;intro ws _ _));refine AA rfl rfl rfl (n:=3) rfl rfl ⟨Aa,v1,x1,A1,n1,c1,P1,5,rfl,Lib.hid ⟨⟨HV.out.symm,fun h=>by cases h⟩,HP2.out⟩,Lib.hid (hrdr.out.chg (inferInstance:Ch (only zo) wr ws).out (fun _ ad e h=>hAz ad e h)),hA1w⟩
       have HD2:Hid (FX t.P P1=FX (t.P.drop (k+1)) P1):=Lib.hid (by rw[HF.out,if_neg hf]);refine Ah (Ab) (by kernel_rfl) (fun wd _ _=> ?_);refine KW 0 ?_;refine YS 1 ?_;refine YS 2 ?_;refine IS 3 48 c48 ?_;refine YS 4 ?_;refine Gx 5 AE 37 ?_;refine Jh 6 101 Tryz.underlying101 ?_;refine YLG 7 AE k 0 2 hkl (LK _) ?_;refine YS 9 ?_;refine YS 10 ?_;refine IS 11 48 c48 ?_;refine YS 12 ?_;refine Gx 13 AE 37 ?_;refine Jh 14 101 Tryz.underlying101 ?_;refine YLG 15 AE k 1 2 hkl (Sm _) ?_;refine Yg 8 fun K_ hK_=> ?_
       go_simp;refine(IL v1 x1 (P:=P1) (gt t.P k).l hl1 (by omega)).mono ?_;rw[←HPV.out];rintro e w8 ⟨rfl,_⟩;refine Yz hK_ ?_;clear hK_ K_;refine YS 16 ?_;refine Yd ?_;go_wp2_with fail;exact⟨⟨k+1,by omega,by go_num,Aa,inferInstance,inferInstance,inferInstance,HD2⟩,by simp[intOf];omega⟩
      have HR3:Hid (R=if x1≤now then 7 else 0):=Lib.hid (by
        rw[HR2.out];have h9:(t.set&&FX t.P P1)=false:=by
         by_cases hlt:k<t.n
         ·have:t.set=false:=by
            cases h:t.set
            ·rfl
            exact absurd ⟨hlt,h⟩ hgo
          rw[this];rfl
         rw[HD.out,List.drop_of_length_le (by omega),FX,Bool.and_false]
        rw[h9,if_neg (by decide)])
      have hcase:(¬k<t.n)∨(k<t.n∧t.set=false):=by
       by_cases hlt:k<t.n
       ·refine .inr ⟨hlt, ?_⟩;cases h:t.set
        ·rfl
        exact absurd ⟨hlt,h⟩ hgo
       exact .inl hlt
      clear hgo;rcases hcase with hlt|⟨hlt,hset⟩
      ·have hltI: ¬(k:Int)<t.n:=by omega
       by_cases hx:x1≤now
       ·have HV:Hid (R=7):=Lib.hid (by rw[HR3.out,if_pos hx]);go_wp2_with (first|(refine WH 51 48 hzt c48 ?_)|(refine Cp ?_)|((with_reducible apply Ac);exact rfl;infer_instance;(first|(exact rfl)|(exact tg_hw _)|(exact tg_ctr _)|(exact tg_ecu _)|(exact srch_who)|exact srch_fd))|(refine Bt ?_;intro ws _ _));refine AA rfl rfl rfl (n:=3) rfl rfl ⟨Aa,v1,x1,A1,n1,c1,P1,7,rfl,Lib.hid ⟨⟨HV.out.symm,fun h=>by cases h⟩,HP2.out⟩,Lib.hid (hrdr.out.chg (inferInstance:Ch (only zo) wr ws).out (fun _ ad e h=>hAz ad e h)),hA1w⟩
       have HV:Hid (R=0):=Lib.hid (by rw[HR3.out,if_neg hx]);go_wp2_with (first|(refine WH 51 48 hzt c48 ?_)|(refine Cp ?_)|((with_reducible apply Ac);exact rfl;infer_instance;(first|(exact rfl)|(exact tg_hw _)|(exact tg_ctr _)|(exact tg_ecu _)|(exact srch_who)|exact srch_fd))|(refine Bt ?_;intro ws _ _));refine AA rfl rfl rfl (n:=3) rfl rfl ⟨Aa,v1,x1,A1,n1,c1,P1,0,rfl,Lib.hid ⟨⟨HV.out.symm,fun _=>HOKK.out⟩,HP2.out⟩,Lib.hid (hrdr.out.chg (inferInstance:Ch (only zo) wr ws).out (fun _ ad e h=>hAz ad e h)),hA1w⟩
      have hltI:(k:Int)<t.n:=by omega
      rw[hset] at c10;by_cases hx:x1≤now
      ·have HV:Hid (R=7):=Lib.hid (by rw[HR3.out,if_pos hx]);go_wp2_with (first|(refine WH 51 48 hzt c48 ?_)|(refine WH 56 10 hzt c10 ?_)|(refine Ct ?_)|(refine CG ?_)|(refine Cp ?_)|((with_reducible apply Ac);exact rfl;infer_instance;(first|(exact rfl)|(exact tg_hw _)|(exact tg_ctr _)|(exact tg_ecu _)|(exact srch_who)|exact srch_fd))|(refine Bt ?_;intro ws _ _));refine AA rfl rfl rfl (n:=3) rfl rfl ⟨Aa,v1,x1,A1,n1,c1,P1,7,rfl,Lib.hid ⟨⟨HV.out.symm,fun h=>by cases h⟩,HP2.out⟩,Lib.hid (hrdr.out.chg (inferInstance:Ch (only zo) wr ws).out (fun _ ad e h=>hAz ad e h)),hA1w⟩
      have HV:Hid (R=0):=Lib.hid (by rw[HR3.out,if_neg hx]);go_wp2_with (first|(refine WH 51 48 hzt c48 ?_)|(refine WH 56 10 hzt c10 ?_)|(refine Ct ?_)|(refine CG ?_)|(refine Cp ?_)|((with_reducible apply Ac);exact rfl;infer_instance;(first|(exact rfl)|(exact tg_hw _)|(exact tg_ctr _)|(exact tg_ecu _)|(exact srch_who)|exact srch_fd))|(refine Bt ?_;intro ws _ _));refine AA rfl rfl rfl (n:=3) rfl rfl ⟨Aa,v1,x1,A1,n1,c1,P1,0,rfl,Lib.hid ⟨⟨HV.out.symm,fun _=>HOKK.out⟩,HP2.out⟩,Lib.hid (hrdr.out.chg (inferInstance:Ch (only zo) wr ws).out (fun _ ad e h=>hAz ad e h)),hA1w⟩
    have HV:Hid (R=6):=Lib.hid (by rw[HR1.out,if_neg hv]);have hvI:(v1 !=tm.s)=true:=by simp[hv]
    have hvJ:v1<tm.s∨tm.s<v1:=by omega
    clear hv;go_wp2_with (first|(refine WH 45 2 hzm7 d2 ?_)|(refine Cp ?_)|((with_reducible apply Ac);exact rfl;infer_instance;(first|(exact rfl)|(exact tg_hw _)|(exact tg_ctr _)|(exact tg_ecu _)|(exact srch_who)|exact srch_fd))|(refine Bt ?_;intro ws _ _));refine AA rfl rfl rfl (n:=3) rfl rfl ⟨Aa,v1,x1,A1,n1,c1,P1,6,rfl,Lib.hid ⟨⟨HV.out.symm,fun h=>by cases h⟩,HP2.out⟩,Lib.hid (hrd7.out.chg (inferInstance:Ch (only zo) w7 ws).out (fun _ ad e h=>hAz ad e h)),hA1w⟩
   have hm:=HPM.out;rw[snM,if_neg hok] at hm;have he1:err1=2:=(Prod.mk.inj (Prod.mk.inj (Prod.mk.inj hm).2).2).2;have HV:Hid (R=2):=Lib.hid (by rw[HR0.out,←HB0.out,if_neg hok];rfl);subst he1;clear hok hm HR0 HPM;go_wp2_with (first|(refine Cp ?_)|(refine Bt ?_;intro ws _ _));refine AA rfl rfl rfl (n:=3) rfl rfl ⟨Aa,v1,x1,A1,n1,c1,P1,2,rfl,Lib.hid ⟨⟨HV.out.symm,fun h=>by cases h⟩,HP2.out⟩,Lib.hid (hrd7.out.chg (inferInstance:Ch (only zo) w7 ws).out (fun _ ad e h=>hAz ad e h)),hA1w⟩
end Go.Proofs.YtjjhceeookpieaaGreat
end
