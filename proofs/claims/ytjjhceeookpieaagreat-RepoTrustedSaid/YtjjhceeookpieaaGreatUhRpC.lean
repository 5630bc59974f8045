/- UhRpC, UhUpM, UhRpD, UhDrS, UhRpE, UhRsA, UhRsB, UhRsC, UhRsD, UhRsE, UhRlE -/
import Derived.Test.YtjjhceeookpieaaGreatUhZ
import Derived.Test.YtjjhceeookpieaaGreatUhTgB
import Derived.Test.YtjjhceeookpieaaGreatUhTgL
import Derived.Test.YtjjhceeookpieaaGreatUhDgX
import Derived.Test.YtjjhceeookpieaaGreatUhRoI
import Derived.Test.YtjjhceeookpieaaGreatUhTgD
import Derived.Test.YtjjhceeookpieaaGreatUhTgK
import Derived.Test.YtjjhceeookpieaaGreatUhQmA
import Derived.Test.YtjjhceeookpieaaGreatUhUnD
section
set_option maxRecDepth 100000
set_option maxHeartbeats 1600000
open Go Go.RowKit
namespace Go.Proofs.YtjjhceeookpieaaGreat
theorem Uj (w:World):(Instr.buildSlice 63 0 #[]).run Tryz.prog w= .ok (.slice (some ⟨w.heap.size,0,none⟩) 0 0) (w.alloc (.cells #[] 44)):=by kernel_rfl
theorem Abd {w:World} {e:TypeId} {s n c:Nat} {xs:List Value} (h:Cm w e s none n c xs):n=0:=by
 rcases h.form with⟨_,h1,_⟩|⟨g,_,h,_⟩
 ·exact h1
 cases h
theorem Agi (A:Option Addr) (n c:Nat) (w:World):(binOp .eql 63 (.slice A n c) (.slice none 0 0)).run Tryz.prog w= .ok (.bool A.isNone) w:=
 Lib.run_eql_slice_nil w 63 44 A n c 0 0 Tryz.underlying63
attribute [local go_sem] Agi
theorem HO.ofEmptyTg (w:World) (z:Nat) [h:HB w z 44 #[]]:HO w 44 37 (some ⟨z,0,none⟩) 0 0 (cellsOf ([]:List Ad)):=⟨Cm.of_blk h.out (Nat.le_refl _) (Nat.zero_le _) (by simp) (by simp[cellsOf])⟩
theorem Sf {A:Option Addr} {n c:Nat} {L:List Ad} {w:World} [ho:HO w 44 37 A n c (cellsOf L)] (hl:L.length=n) (hn:n≤1000000):
    Calls Tryz.prog 41 #[.slice A n c] w fun e w'=>∃A' c',e= .returned (.slice A' n c')∧Ag Ab w w'∧HR w' A' (cellsOf L)∧Aj w A':=by
 have hrl:HR w A (cellsOf L):=⟨ho.out.rd⟩;cases A with
 |none=>
  have h0:=Abd ho.out;subst h0;obtain rfl:L=[]:=List.length_eq_zero_iff.1 hl;go_enter Tryz.func41,Tryz.ntmps41;go_wp2_with fail;go_ret;exact⟨none,0,rfl,Aa,hrl,Ck _⟩
 |some ad=>
  go_enter Tryz.func41,Tryz.ntmps41;go_wp2_with (first|(refine BM 5 (Uj _) ?_;intro zb wb _ _ _)|((with_reducible apply(Bb (α:=Ad)));exact rfl;exact rfl;infer_instance;exact HO.ofEmptyTg _ _;infer_instance;exact rfl;exact hl;omega;(decide);(decide);intro A' c' wa _ ho _ hcap));go_ret;refine⟨A',c',by simp,Aa,⟨?_⟩,inferInstance⟩;have h5:=ho.out.rd;simpa using h5
def CF:List UInt8:=[116,111,112]
def OR (t:Ad):Bool:=DO CF 1 0 [t] []
theorem Aen (A:Option Addr) (n c:Nat) (w:World):(Instr.build 66 #[(0, .string ⟨#[116,111,112]⟩),(1, .int .i64 1),(3, .slice A n c)]).run Tryz.prog w= .ok (.agg #[.string (Al CF), .int .i64 1, .int .i64 0, .slice A n c, .slice none 0 0]) w:=by kernel_rfl
theorem AR.uniR {ok:Bool} {bytes:List UInt8} {w w':World} {e:Ending} (h:AR ok bytes w e w'):
    Ag Ab w w'∧∃A n c,e= .returned (.tuple #[.slice A n c, .int .i64 (if ok then 0 else 1)]):=by
 obtain⟨hs,h⟩:=h;refine⟨hs, ?_⟩;cases ok with
 |false=>
  obtain rfl:e=_:=h;exact⟨none,0,0,rfl⟩
 |true=>
  obtain⟨A,n,c,rfl,_⟩:=h;exact⟨A,n,c,rfl⟩
theorem LF (t:Ad) (w:World):Calls Tryz.prog 23 #[.agg (Af.enc t).toArray] w fun e w'=>e= .returned (.bool (OR t))∧Ag Ab w w':=by
 have hsz:(Af.enc t).toArray.size =37:=DB t;have hon:=AY t;obtain⟨R,hR⟩: ∃R,R=OR t:=⟨_,rfl⟩;have HM:Hid (OR t=R):=Lib.hid hR.symm;rw[←hR];clear hR;go_enter Tryz.func23,Tryz.ntmps23;go_wp2_with (first|(refine BM 7 (IJ _ _) ?_;intro zb wb _ _ _)|(refine Ji (Aen _ _ _ _) ?_)|(refine Bv 1 ?_;intro zt wzt _ _ _)|(refine Cp ?_));have hP:HR wb (some ⟨zb,0,none⟩) (cellsOf [t]):=HB.cells inferInstance;have hD:HR wb none (cellsOf ([]:List Ax)):=⟨Rd.nil _ _⟩;refine(Gm CF 1 0 (P:=[t]) (D:=[]) rfl rfl (fun k hk=>by cases hk) (by show 1≤9223372036854775807;decide) (by decide)).mono ?_;rintro e w5 hp;obtain⟨st5,A5,n5,c5,rfl⟩:=hp.uniR;clear hp;rw[show DO CF 1 0 [t] []=R from HM.out];cases R
 case false=>
  go_wp2_with fail;go_ret;exact⟨rfl,Aa⟩
 case true=>
  go_wp2_with fail;go_ret;exact⟨rfl,Aa⟩
end Go.Proofs.YtjjhceeookpieaaGreat
end
section
open Go Go.RowKit
namespace Go.Proofs.YtjjhceeookpieaaGreat
abbrev Xx:=List UInt8×Int×Int×List Ad×List Pv
structure Zu where
 r:Fg
 set:Bool
 tv:Int
 te:Int
 ts:Int
 th:Ak
 sv:Int
 sx:Int
 sp:List AE
 tg:List Xx
def BU (r:Fg) (i:Nat):List Ak×Int:=r.2.2.getD i ([],0)
def CS (r:Fg):List Em→Fg×Int
 |[]=>(r,0)
 |E::L=>if EP E.m&&decide ((Pt E.m:Int)≤r.1) then CS r L
     else if(Gi r E.m E.l).2.2.2=0 then CS ((Gi r E.m E.l).1,(Gi r E.m E.l).2.1,(Gi r E.m E.l).2.2.1) L else(r,(Gi r E.m E.l).2.2.2)
def CT (r:Fg) (L:List Em) (now:Int):Fg×Int:=
 if(CS r L).2=0 then(if(CS r L).1.2.1≤now then((CS r L).1,7) else((CS r L).1,0)) else CS r L
def mtV (b:List UInt8):Int:=(tV (AO 2 b):Nat)
def mtE (b:List UInt8):Int:=(tE (AO 2 b):Nat)
def SW (b:List UInt8):Int:=(tS (AO 2 b):Nat)
def UP (b:List UInt8):Ak:=tH (AO 2 b)
def EL (set:Bool) (tv ts:Int) (k:List Ak×Int) (m:List UInt8) (l:List AC) (now:Int):Int:=
 if BC m l k.1 k.2 then
  (if UW m then(if set&&(decide (mtV m<tv)||decide (SW m<ts)) then 5 else if mtE m≤now then 7 else 0) else 2)
 else 4
def Dy:List AE→List UInt8→Option Int
 |[],_=>none
 |p::P,nm=>if p.l=nm then some p.v else Dy P nm
def FX:List AE→List AE→Bool
 |[],_=>false
 |p::W,P=>if(match Dy P p.l with|none=>true|some v=>decide (v<p.v)) then true else FX W P
def Fu (set:Bool) (sp:List AE) (k:List Ak×Int) (ts:Int) (th:Ak) (m:List UInt8) (l:List AC) (now:Int):Int:=
 if Gw m=th then
  if BC m l k.1 k.2 then
   (if Gf m then
    (if(Qc m:Int)=ts then(if set&&FX sp (KY m) then 5 else if(Qd m:Int)≤now then 7 else 0) else 6)
   else 2)
  else 4
 else 8
def JJ:List Pv→List UInt8→Option (List Ak×Int)
 |[],_=>none
 |d::D,nm=>if d.1=nm then some d.2.1 else JJ D nm
def Gn:List Xx→List UInt8→Option (List Ak×Int)
 |[],_=>none
 |t::l,nm=>match JJ t.2.2.2.2 nm with
  |some k=>some k
  |none=>Gn l nm
def Fv (l:List Xx) (nm:List UInt8):Bool:=l.any fun t=>decide (t.1=nm)
def UQ (m:List UInt8):Xx:=(KB m,(JI m:Int),(UI m:Int),Zo m,Zp m)
def FY (r3:List Ak×Int) (sp:List AE) (l:List Xx) (m:List UInt8) (mk:List AC) (now:Int):Int:=
 if Di m&&!Fv l (KB m)&&(!l.isEmpty||decide (KB m=CF)) then
  match(if l.isEmpty then some r3 else Gn l (KB m)) with
  |none=>9
  |some k=>if BC m mk k.1 k.2 then
      (match Dy sp (KB m) with
      |none=>9
      |some v=>if v=(JI m:Int) then(if(UI m:Int)≤now then 7 else 0) else 6)
   else 4
 else 2
def GQ (r3:List Ak×Int) (sp:List AE) (now:Int) (l:List Xx):List Em→List Xx×Int
 |[]=>(l,0)
 |E::L=>if FY r3 sp l E.m E.l now=0 then GQ r3 sp now (l++[UQ E.m]) L else(l,FY r3 sp l E.m E.l now)
structure IM where
 XA:Option Addr
 xn:Nat
 xc:Nat
 X:List Em
 t:Em
 s:Em
 GA:Option Addr
 gn:Nat
 gc:Nat
 G:List Em
def KV (t:Zu) (b:IM) (now:Int):Zu×Int:=
 if(CT t.r b.X now).2=0 then
  if EL t.set t.tv t.ts (BU (CT t.r b.X now).1 1) b.t.m b.t.l now=0 then
   if Fu t.set t.sp (BU (CT t.r b.X now).1 2) (SW b.t.m) (UP b.t.m) b.s.m b.s.l now=0 then
    if b.G.length=0 then(t,9) else if 16<b.G.length then(t,2) else
    if(GQ (BU (CT t.r b.X now).1 3) (KY b.s.m) now [] b.G).2=0 then
     (⟨(CT t.r b.X now).1,true,mtV b.t.m,mtE b.t.m,SW b.t.m,UP b.t.m,(Qc b.s.m:Int),(Qd b.s.m:Int),KY b.s.m,(GQ (BU (CT t.r b.X now).1 3) (KY b.s.m) now [] b.G).1⟩,0)
    else(t,(GQ (BU (CT t.r b.X now).1 3) (KY b.s.m) now [] b.G).2)
   else(t,Fu t.set t.sp (BU (CT t.r b.X now).1 2) (SW b.t.m) (UP b.t.m) b.s.m b.s.l now)
  else(t,EL t.set t.tv t.ts (BU (CT t.r b.X now).1 1) b.t.m b.t.l now)
 else(t,(CT t.r b.X now).2)
theorem Agw {t:Zu} {b:IM} {now e:Int} {r:Fg} (h:CT t.r b.X now=(r,e)) (he: ¬e=0):KV t b now=(t,e):=by
 rw[KV,h];show(if e=0 then _ else(t,e))=_;rw[if_neg he]
theorem Agx {t:Zu} {b:IM} {now e:Int} {r:Fg} (h:CT t.r b.X now=(r,0)) (h2:EL t.set t.tv t.ts (BU r 1) b.t.m b.t.l now=e) (he: ¬e=0):KV t b now=(t,e):=by
 rw[KV,h];show(if(0:Int)=0 then(if EL t.set t.tv t.ts (BU r 1) b.t.m b.t.l now=0 then _ else(t,EL t.set t.tv t.ts (BU r 1) b.t.m b.t.l now)) else _)=_;rw[if_pos rfl,h2,if_neg he]
theorem Agy {t:Zu} {b:IM} {now e:Int} {r:Fg} (h:CT t.r b.X now=(r,0)) (h2:EL t.set t.tv t.ts (BU r 1) b.t.m b.t.l now=0) (h3:Fu t.set t.sp (BU r 2) (SW b.t.m) (UP b.t.m) b.s.m b.s.l now=e) (he: ¬e=0):KV t b now=(t,e):=by
 rw[KV,h];show(if(0:Int)=0 then(if EL t.set t.tv t.ts (BU r 1) b.t.m b.t.l now=0 then(if Fu t.set t.sp (BU r 2) (SW b.t.m) (UP b.t.m) b.s.m b.s.l now=0 then _ else(t,Fu t.set t.sp (BU r 2) (SW b.t.m) (UP b.t.m) b.s.m b.s.l now)) else _) else _)=_;rw[if_pos rfl,h2,if_pos rfl,h3,if_neg he]
theorem Agz {t:Zu} {b:IM} {now:Int} {r:Fg} (h:CT t.r b.X now=(r,0)) (h2:EL t.set t.tv t.ts (BU r 1) b.t.m b.t.l now=0) (h3:Fu t.set t.sp (BU r 2) (SW b.t.m) (UP b.t.m) b.s.m b.s.l now=0):
    KV t b now=if b.G.length=0 then(t,9) else if 16<b.G.length then(t,2) else
        if(GQ (BU r 3) (KY b.s.m) now [] b.G).2=0 then
         (⟨r,true,mtV b.t.m,mtE b.t.m,SW b.t.m,UP b.t.m,(Qc b.s.m:Int),(Qd b.s.m:Int),KY b.s.m,(GQ (BU r 3) (KY b.s.m) now [] b.G).1⟩,0)
        else(t,(GQ (BU r 3) (KY b.s.m) now [] b.G).2):=by
 rw[KV,h];show(if(0:Int)=0 then(if EL t.set t.tv t.ts (BU r 1) b.t.m b.t.l now=0 then(if Fu t.set t.sp (BU r 2) (SW b.t.m) (UP b.t.m) b.s.m b.s.l now=0 then _ else _) else _) else _)=_;rw[if_pos rfl,h2,if_pos rfl,h3,if_pos rfl]
theorem Zv (r3:List Ak×Int) (sp:List AE) (now:Int) (l:List Xx) (L:List Em) (k:Nat) (h:k<L.length):GQ r3 sp now l (L.drop k)=if FY r3 sp l (gt L k).m (gt L k).l now=0 then GQ r3 sp now (l++[UQ (gt L k).m]) (L.drop (k+1)) else(l,FY r3 sp l (gt L k).m (gt L k).l now):=by
 rw[GZ L k h,GQ]
theorem Rf (P:List AE) (nm:List UInt8) (k:Nat) (h:k<P.length):Dy (P.drop k) nm=if(gt P k).l =nm then some (gt P k).v else Dy (P.drop (k+1)) nm:=by
 rw[GZ P k h,Dy]
theorem WF (W P:List AE) (k:Nat) (h:k<W.length):FX (W.drop k) P=if(match Dy P (gt W k).l with|none=>true|some v=>decide (v<(gt W k).v)) then true else FX (W.drop (k+1)) P:=by
 rw[GZ W k h,FX]
theorem Pi (D:List Ax) (nm:List UInt8) (k:Nat) (h:k<D.length):JJ ((D.drop k).map Ax.m) nm=if(gt D k).l =nm then some (gt D k).k.m else JJ ((D.drop (k+1)).map Ax.m) nm:=by
 rw[GZ D k h,List.map_cons,JJ];rfl
theorem Xy {P:List AE} {nm:List UInt8} {v:Int} (h:Dy P nm=some v): ∃p∈P,p.v=v:=by
 induction P with
 |nil=>cases h
 |cons p P ih=>
  rw[Dy] at h;split at h
  ·exact⟨p,List.mem_cons_self ..,by injection h⟩
  obtain⟨q,h1,h2⟩:=ih h;exact⟨q,List.mem_cons_of_mem _ h1,h2⟩
theorem UR {P:List AE} {p:AE} (h:1≤p.v):(match Dy P p.l with|none=>true|some v=>decide (v<p.v))=decide ((Dy P p.l).getD 0<p.v):=by
 cases Dy P p.l with
 |none=>exact(decide_eq_true (by simp only[Option.getD_none];omega)).symm
 |some v=>rfl
theorem Zw {m:List UInt8} (h:Gf m=true): ∀p∈KY m,1≤p.v∧p.v≤1073741824:=by
 intro p hp;unfold Gf at h;rw[Bool.and_eq_true] at h;have h1:=h.2;unfold BO at h1;simp only[Bool.and_eq_true] at h1;have h2:=List.all_eq_true.1 h1.1.2 p hp;unfold Cd BE at h2;simp only[Bool.and_eq_true,decide_eq_true_eq] at h2;exact h2.2
end Go.Proofs.YtjjhceeookpieaaGreat
end
section
set_option maxRecDepth 100000
set_option maxHeartbeats 1600000
open Go Go.RowKit
namespace Go.Proofs.YtjjhceeookpieaaGreat
theorem GJ (sd:Ak) (p0 p1:Value) (f:Ak) (g v:Int) (x:Value) (suf:List Value):Eg (Bg sd p0 p1 f g v (x::suf)) 68=some x:=by
 rw[←Bp];exact Jz sd p0 p1 f g v _ 0
theorem Uk (sd:Ak) (p0 p1:Value) (f:Ak) (g v:Int) (x y:Value) (suf:List Value):(Bg sd p0 p1 f g v (x::suf)).toArray.setIfInBounds 68 y=(Bg sd p0 p1 f g v (y::suf)).toArray :=by
 rw[sA]
 congr 1
 have e1: ∀z,Bg sd p0 p1 f g v (z::suf)=(bs sd.l++[p0,p1]++bs f.l++[Value.int .i64 g,Value.int .i64 v])++(z::suf):=fun z=>by simp[Bg]
 have e2:(bs sd.l++[p0,p1]++bs f.l++[Value.int .i64 g,Value.int .i64 v]).length =68:=by simp[Am]
 rw[e1,e1,List.set_append_right _ _ (by rw[e2];exact Nat.le_refl _),e2];rfl
theorem Afg (sd:Ak) (p0 p1:Value) (f:Ak) (g v:Int) (x:Value) (suf:List Value) (h:suf.length=7):68<(Bg sd p0 p1 f g v (x::suf)).toArray.size :=by
 rw[List.size_toArray,NI _ _ _ _ _ _ _ (by simp[h])];decide
def GK (nm ecu:List UInt8):Ad:=⟨nm,0,Aq,[],0,ecu⟩
theorem Abe (nm ecu:List UInt8) (w:World):(Instr.build 44 #[(0, .string (Al nm)),(5, .string (Al ecu))]).run Tryz.prog w= .ok (.agg (Af.enc (GK nm ecu)).toArray) w:=by kernel_rfl
def LH (z:Nat) (B:Option Addr):Nat→Prop:=fun x=>x=z∨An B x
instance KE.gzrA (w:World) (z:Nat) (B:Option Addr):KE w (only z) (LH z B):=⟨fun _ _ h=> .inl h⟩
instance KE.gzrB (w:World) (z:Nat) (B:Option Addr):KE w (An B) (LH z B):=⟨fun _ _ h=> .inr h⟩
section
variable {sd f:Ak} {p0 p1:Value} {g v:Int} {suf:List Value} {B:Option Addr} {m d:Nat} {T:List Ad} {zr:Nat} {w:World}
theorem OS [hb:HB w zr 84 (Bg sd p0 p1 f g v (.slice B m d::suf)).toArray] [ho:HO w 44 37 B m d (cellsOf T)] (hl:T.length=m) (hn:m≤1000000):
    Calls Tryz.prog 15 #[.pointer (some ⟨zr,0,none⟩)] w fun e w'=>∃A' c',e= .returned (.slice A' m c')∧Ag Ab w w'∧HR w' A' (cellsOf T)∧Aj w A':=by
 go_enter Tryz.func15,Tryz.ntmps15;go_wp2_with (first|(refine SS 68 hb (GJ _ _ _ _ _ _ _ _) ?_));refine(Sf (L:=T) hl hn).mono ?_;rintro e w5 ⟨A',c',rfl,st5,hr5,hn5⟩;go_wp2_with fail;go_ret;exact⟨A',c',rfl,Aa,hr5,hn5⟩
theorem LI (nm ecu:List UInt8) [hb:HB w zr 84 (Bg sd p0 p1 f g v (.slice B m d::suf)).toArray] [ho:HO w 44 37 B m d (cellsOf T)] (hl:T.length=m) (hn:m≤1000000) (hrise:Fn T):
    Calls Tryz.prog 24 #[.pointer (some ⟨zr,0,none⟩), .string (Al nm), .string (Al ecu)] w fun e w'=>∃k:Nat,e= .returned (.tuple #[.int .i64 (k:Int), .bool (Ui T (GK nm ecu) k)])∧Hid (LE T (GK nm ecu) k)∧Ag Ab w w':=by
 have hrl:HR w B (cellsOf T):=⟨ho.out.rd⟩;have HS:=Lib.hid hrise;clear hrise;go_enter Tryz.func24,Tryz.ntmps24;go_wp2_with (first|(refine Ji (Abe _ _ _) ?_)|(refine SS 68 hb (GJ _ _ _ _ _ _ _ _) ?_));refine(PW (GK nm ecu) hl (by omega) HS.out).mono ?_;rintro e w5 ⟨k,rfl,hp,st5⟩;go_wp2_with fail
 go_ret2
 exact⟨k,rfl,hp,Aa⟩
end
end Go.Proofs.YtjjhceeookpieaaGreat
end
section
open Go Go.RowKit
namespace Go.Proofs.YtjjhceeookpieaaGreat
theorem Oa {α:Type} [Af α] (l:List α) (k j m:Nat) (hk:k<l.length) (hj:j+m≤Af.size α) (vs:List Value) (hv:vs.length=m) (d:α) (hd:Af.enc d=(Af.enc (gt l k)).take j++vs++(Af.enc (gt l k)).drop (j+m)):
    (cellsOf l).take (k*Af.size α+j)++vs++(cellsOf l).drop (k*Af.size α+j+m)=cellsOf (l.set k d):=by
 have hlen:(cellsOf l).length =l.length*Af.size α:=AB l;have hkl:k*Af.size α+Af.size α≤(cellsOf l).length :=by rw[hlen,←Nat.succ_mul];exact Nat.mul_le_mul_right _ hk
 have hat:=Da l k hk;have hset:=FM l k d hk;have hlb:(Af.enc (gt l k)).length =Af.size α:=Af.len _;obtain⟨K,hK⟩: ∃K,K=k*Af.size α:=⟨_,rfl⟩;obtain⟨s,hs⟩: ∃s,s=Af.size α:=⟨_,rfl⟩;rw[←hK] at hkl hset⊢;rw[←hs] at hkl hset hlb hj;have hat':((cellsOf l).drop K).take s=Af.enc (gt l k):=by rw[hK,hs];exact hat
 obtain⟨C,hC⟩: ∃C,C=cellsOf l:=⟨_,rfl⟩;rw[←hC] at hkl hset hat'⊢;obtain⟨E,hE⟩: ∃E,E=Af.enc (gt l k):=⟨_,rfl⟩;rw[←hE] at hat' hlb hd;have hdec:C=C.take K++(E++C.drop (K+s)):=by
  conv=>lhs;rw[←List.take_append_drop K C,←List.take_append_drop s (C.drop K),List.drop_drop]
  rw[hat']
 have hPl:(C.take K).length =K:=by rw[List.length_take];omega
 obtain⟨Pp,hP⟩: ∃Pp,Pp=C.take K:=⟨_,rfl⟩;obtain⟨R,hR⟩: ∃R,R=C.drop (K+s):=⟨_,rfl⟩;rw[←hP] at hPl;rw[←hset,←hP,←hR,hd];rw[←hP,←hR] at hdec;have t1:C.take (K+j)=Pp++E.take j:=by
  rw[hdec,List.take_append,List.take_of_length_le (by omega),show K+j -Pp.length=j by omega,List.take_append_of_le_length (by omega)]
 have t2:C.drop (K+j+m)=E.drop (j+m)++R:=by
  rw[hdec,List.drop_append,List.drop_of_length_le (by omega),List.nil_append,show K+j+m -Pp.length=j+m by omega,List.drop_append_of_le_length (by omega)]
 rw[t1,t2];simp[List.append_assoc]
section
variable {P:Program} {ops:Array Oper} {rest:List Oper} {a:Act} {w:World} {Q:Exit→Act→World→Prop} {dst:Option Tmp} {ty:TypeId} {pos:String} {after:Array Edge}
theorem Ob {α:Type} [Af α] {t:TypeId} {x y:Operand} {A:Option Addr} {k j s:Nat} {v:Value} (hx:a.eval x=AN A (k*s+j)) (hy:a.eval y=v) {e:TypeId} {n c:Nat} {l:List α} (ho:HO w e s A n c (cellsOf l)) (ht:AL P t) (hs:Af.size α=s) (h1:v.oneCell'=true) (hk:k<l.length) (hj:j+1≤s) (d:α) (hd:Af.enc d=(Af.enc (gt l k)).take j++[v]++(Af.enc (gt l k)).drop (j+1))
    (h: ∀w',Ag (An A) w w'→HO w' e s A n c (cellsOf (l.set k d))→wpList P ops Q rest (a.put dst undef) w'):wpList P ops Q (⟨dst, .store t x y,ty,pos,after,none⟩::rest) a w:=by
 subst hs;have hlen:(cellsOf l).length =l.length*Af.size α:=AB l;have hkl:k*Af.size α+Af.size α≤(cellsOf l).length :=by rw[hlen,←Nat.succ_mul];exact Nat.mul_le_mul_right _ hk
 obtain⟨g,hA,q1,q2,q3⟩:=CP ho.out (k:=k*Af.size α+j) (cs:=[v]) (m:=1) rfl (by omega) (by decide);refine Ep rfl (w':=w.setCells g (k*Af.size α+j) [v]) ?_ (h _ ⟨q3⟩ ⟨?_⟩)
 ·have hc:=q1 0 (by decide);have hst:=run_store P w ⟨g,k*Af.size α+j,none⟩ v .plain h1;have hcs:v.cells=#[v]:=by cases v<;>simp_all [Value.oneCell',Value.cells]
  rw[Nat.add_zero] at hc;obtain⟨u,hu⟩:=Option.isSome_iff_exists.1 hc.1;rw[hu,hc.2] at hst;show((Instr.storeAt t (a.eval x) (a.eval y))>>=fun _=>pure Next.skip).run P w=_;rw[hx,hy,hA];simp[Instr.storeAt,Instr.sureAddr,AN,Dp,DQ,storeVar,hcs,ht.size1 w,storeCells,Be,hst,World.setCells]
 rw[Oa l k j 1 hk hj [v] rfl d hd] at q2;exact q2
theorem Oc {α:Type} [Af α] {t:TypeId} {x y:Operand} {A:Option Addr} {k j s m:Nat} {vs:Array Value} (hx:a.eval x=AN A (k*s+j)) (hy:a.eval y= .agg vs) {e:TypeId} {n c:Nat} {l:List α} (ho:HO w e s A n c (cellsOf l)) (ht:Cl P t m) (hv:vs.size=m) (hm0:0<m) (hone:vs.all (·.oneCell')=true) (hs:Af.size α=s) (hk:k<l.length) (hj:j+m≤s) (d:α) (hd:Af.enc d=(Af.enc (gt l k)).take j++vs.toList++(Af.enc (gt l k)).drop (j+m))
    (h: ∀w',Ag (An A) w w'→HO w' e s A n c (cellsOf (l.set k d))→wpList P ops Q rest (a.put dst undef) w'):wpList P ops Q (⟨dst, .store t x y,ty,pos,after,none⟩::rest) a w:=by
 subst hs;have hlen:(cellsOf l).length =l.length*Af.size α:=AB l;have hkl:k*Af.size α+Af.size α≤(cellsOf l).length :=by rw[hlen,←Nat.succ_mul];exact Nat.mul_le_mul_right _ hk
 obtain⟨g,hA,q1,q2,q3⟩:=CP ho.out (k:=k*Af.size α+j) (cs:=vs.toList) (m:=m) (by simpa using hv) (by omega) hm0;refine Ep rfl (w':=w.setCells g (k*Af.size α+j) vs.toList) ?_ (h _ ⟨q3⟩ ⟨?_⟩)
 ·show((Instr.storeAt t (a.eval x) (a.eval y))>>=fun _=>pure Next.skip).run P w=_;rw[hx,hy,Sem.run_bind,hA,AN,Dp,Addr.add_mid,Nat.zero_add,run_storeAt_mid (P:=P) w g (k*Af.size α+j) t vs (by rw[hv];exact q1) (by rw[hv];exact ht.size) hone];rfl
 rw[Oa l k j m hk hj vs.toList (by simpa using hv) d hd] at q2;exact q2
end
end Go.Proofs.YtjjhceeookpieaaGreat
end
section
open Go Go.RowKit
namespace Go.Proofs.YtjjhceeookpieaaGreat
theorem PX (A B:Option Addr) (n c d:Nat) (ty:TypeId) (hc:n≤c) (w:World):(Builtin.append_ #[63,63] ty #[.slice A n c, .slice B 0 d]).run Tryz.prog w= .ok (.slice A n c) w:=by
 have hi: ∀w,(sizeOf 44).run Tryz.prog w= .ok 37 w:=fun _=>by kernel_rfl
 unfold Builtin.append_;cases A<;>cases B<;>simp[run_underlying Tryz.underlying63,hi,Builtin.lenOf,Builtin.firstCells,hc,loadCells,loadCellsFrom,storeCells]
section
variable {ops:Array Oper} {rest:List Oper} {a:Act} {w:World} {Q:Exit→Act→World→Prop} {dst:Option Tmp} {ty:TypeId} {pos:String} {after:Array Edge}
end
theorem Wp: ∀v∈BZ.toList,v.oneCell'=true:=by
 intro v hv;have h:BZ.toList=Ad.cs ⟨[],0,Aq,[],0,[]⟩:=by kernel_rfl
 rw[h] at hv;exact Xq _ v hv
theorem Wq (g k c:Nat) (ty:TypeId) (w:World) (hth:w.there g k 37):(Builtin.clear_ #[63] ty #[.slice (some ⟨g,k,none⟩) 1 c]).run Tryz.prog w= .ok (.tuple #[]) (w.setCells g k BZ.toList):=by
 have hv: ∀w,(zeroValue 44).run Tryz.prog w= .ok (.agg BZ) w:=fun _=>by kernel_rfl
 have hzc:(Builtin.zeroCells (Value.agg BZ).cells 1).toList =BZ.toList:=by kernel_rfl
 have hst:=run_storeCells_cells (P:=Tryz.prog) g k BZ.toList 0 w (fun j hj=>(hth j hj).1) (fun j hj=>(hth j hj).2) Wp;simp only[Nat.add_zero] at hst;simp[Builtin.clear_,run_underlying Tryz.underlying63,hv,hzc,hst]
section
variable {ops:Array Oper} {rest:List Oper} {a:Act} {w:World} {Q:Exit→Act→World→Prop} {dst:Option Tmp} {ty:TypeId} {pos:String} {after:Array Edge}
end
end Go.Proofs.YtjjhceeookpieaaGreat
end
section
set_option maxRecDepth 100000
set_option maxHeartbeats 1600000
open Go Go.RowKit
namespace Go.Proofs.YtjjhceeookpieaaGreat
theorem Aeq (w:World):(Instr.buildSlice 55 0 #[]).run Tryz.prog w= .ok (.slice (some ⟨w.heap.size,0,none⟩) 0 0) (w.alloc (.cells (Aw []) 5)):=by kernel_rfl
theorem Aer (w:World):(Instr.buildSlice 28 0 #[]).run Tryz.prog w= .ok (.slice (some ⟨w.heap.size,0,none⟩) 0 0) (w.alloc (.cells #[] 23)):=by kernel_rfl
theorem Aes (w:World):(Instr.buildSlice 56 0 #[]).run Tryz.prog w= .ok (.slice (some ⟨w.heap.size,0,none⟩) 0 0) (w.alloc (.cells #[] 139)):=by kernel_rfl
theorem Aii (A:Option Addr) (n c:Nat) (w:World):(binOp .eql 55 (.slice A n c) (.slice none 0 0)).run Tryz.prog w= .ok (.bool A.isNone) w:=
 Lib.run_eql_slice_nil w 55 5 A n c 0 0 Tryz.underlying55
theorem Aij (A:Option Addr) (n c:Nat) (w:World):(binOp .eql 28 (.slice A n c) (.slice none 0 0)).run Tryz.prog w= .ok (.bool A.isNone) w:=
 Lib.run_eql_slice_nil w 28 23 A n c 0 0 Tryz.underlying28
theorem Aik (A:Option Addr) (n c:Nat) (w:World):(binOp .eql 56 (.slice A n c) (.slice none 0 0)).run Tryz.prog w= .ok (.bool A.isNone) w:=
 Lib.run_eql_slice_nil w 56 139 A n c 0 0 Tryz.underlying56
attribute [local go_sem] Aii Aij Aik
instance Ail:MG (([]:List UInt8).length ≤maxLen):=⟨Nat.zero_le _⟩
theorem JC {w:World} {vs:List Value} (h:Rd w none vs):vs=[]:=by
 cases vs with
 |nil=>rfl
 |cons x l=>
  obtain⟨ad,h,_⟩:=h.lt (by simp);cases h
theorem HO.ofEH (w:World) (z:Nat) [h:HB w z 23 #[]]:HO w 23 32 (some ⟨z,0,none⟩) 0 0 (cellsOf ([]:List Ak)):=⟨Cm.of_blk h.out (Nat.le_refl _) (Nat.zero_le _) (by simp) (by simp[cellsOf])⟩
theorem HO.ofEM (w:World) (z:Nat) [h:HB w z 139 #[]]:HO w 139 35 (some ⟨z,0,none⟩) 0 0 (cellsOf ([]:List AC)):=⟨Cm.of_blk h.out (Nat.le_refl _) (Nat.zero_le _) (by simp) (by simp[cellsOf])⟩
theorem Hv {A:Option Addr} {n c:Nat} {l:List UInt8} {w:World} [h:HR w A (bs l)] (hl:l.length=n) (hm:n≤1000000):
    Calls Tryz.prog 84 #[.slice A n c] w fun e w'=>∃A' c',e= .returned (.slice A' n c')∧Ag Ab w w'∧HO w' 5 1 A' n c' (bs l)∧Aj w A':=by
 cases A with
 |none=>
  have h0:=JC h.out;have hx:l=[]:=by
   have h1:=congrArg List.length h0;rw[Am] at h1;cases l with
   |nil=>rfl
   |cons x l=>simp at h1
  subst hx;subst hl;go_enter Tryz.func84,Tryz.ntmps84;go_wp2_with fail;go_ret;exact⟨none,0,rfl,Aa,⟨Cm.nil _ _ _⟩,Ck _⟩
 |some ad=>
  go_enter Tryz.func84,Tryz.ntmps84;go_wp2_with (first|(refine BM 5 (Aeq _) ?_;intro zb wb _ _ _)|((with_reducible apply GY);exact rfl;exact rfl;infer_instance;infer_instance;infer_instance;exact hl;omega;intro A' c' wa _ ho _ hcap));go_ret;exact⟨A',c',by simp,Aa,⟨by have h5:=ho.out;simpa using h5⟩,inferInstance⟩
theorem Ky {A:Option Addr} {n c:Nat} {l:List Ak} {w:World} [h:HR w A (cellsOf l)] (hl:l.length=n) (hm:n≤1000000):
    Calls Tryz.prog 86 #[.slice A n c] w fun e w'=>∃A' c',e= .returned (.slice A' n c')∧Ag Ab w w'∧HO w' 23 32 A' n c' (cellsOf l)∧Aj w A':=by
 cases A with
 |none=>
  have h0:=JC h.out;have hx:l=[]:=by
   have h1:=congrArg List.length h0;rw[AB] at h1;cases l with
   |nil=>rfl
   |cons x l=>simp at h1
  subst hx;subst hl;go_enter Tryz.func86,Tryz.ntmps86;go_wp2_with fail;go_ret;exact⟨none,0,rfl,Aa,⟨Cm.nil _ _ _⟩,Ck _⟩
 |some ad=>
  go_enter Tryz.func86,Tryz.ntmps86;go_wp2_with (first|(refine BM 5 (Aer _) ?_;intro zb wb _ _ _)|((with_reducible apply(Bb (α:=Ak)));exact rfl;exact rfl;infer_instance;exact HO.ofEH _ _;infer_instance;exact rfl;exact hl;omega;(decide);(decide);intro A' c' wa _ ho _ hcap));go_ret;exact⟨A',c',by simp,Aa,⟨by have h5:=ho.out;simpa using h5⟩,inferInstance⟩
theorem Hw {A:Option Addr} {n c:Nat} {l:List AC} {w:World} [h:HR w A (cellsOf l)] (hl:l.length=n) (hm:n≤1000000):
    Calls Tryz.prog 85 #[.slice A n c] w fun e w'=>∃A' c',e= .returned (.slice A' n c')∧Ag Ab w w'∧HO w' 139 35 A' n c' (cellsOf l)∧Aj w A':=by
 cases A with
 |none=>
  have h0:=JC h.out;have hx:l=[]:=by
   have h1:=congrArg List.length h0;rw[AB] at h1;cases l with
   |nil=>rfl
   |cons x l=>simp at h1
  subst hx;subst hl;go_enter Tryz.func85,Tryz.ntmps85;go_wp2_with fail;go_ret;exact⟨none,0,rfl,Aa,⟨Cm.nil _ _ _⟩,Ck _⟩
 |some ad=>
  go_enter Tryz.func85,Tryz.ntmps85;go_wp2_with (first|(refine BM 5 (Aes _) ?_;intro zb wb _ _ _)|((with_reducible apply(Bb (α:=AC)));exact rfl;exact rfl;infer_instance;exact HO.ofEM _ _;infer_instance;exact rfl;exact hl;omega;(decide);(decide);intro A' c' wa _ ho _ hcap));go_ret;exact⟨A',c',by simp,Aa,⟨by have h5:=ho.out;simpa using h5⟩,inferInstance⟩
end Go.Proofs.YtjjhceeookpieaaGreat
end
section
open Go Go.RowKit
namespace Go.Proofs.YtjjhceeookpieaaGreat
abbrev Pu:=Ak×Int×List Ak×List Ak
def AC.mv (r:AC):Pu:=(r.key,r.leaf,r.l,r.p)
def Vg (w:World) (m:List UInt8) (P:List Pu) (v0 v1:Value):Prop:=∃(M:Option Addr) (nb cb:Nat) (A:Option Addr) (n c:Nat) (l:List AC),v0= .slice M nb cb∧v1= .slice A n c∧Rd w M (bs m)∧m.length=nb∧nb≤100000∧Rd w A (cellsOf l)∧l.length=n∧n≤100000∧l.map AC.mv=P∧∀x∈l,CC w x∧x.l.length≤100000∧x.p.length≤100000
theorem CC.chgS {w w':World} {r:AC} {S:Nat→Prop} (h:CC w r) (c:Au S w w') (ha: ∀ad,r.A=some ad→¬S ad.block) (hb: ∀ad,r.B=some ad→¬S ad.block):CC w' r:=⟨h.1.chg c (fun _ ad e=>ha ad e),h.2.chg c (fun _ ad e=>hb ad e)⟩
theorem Vg.nw {w w':World} {m:List UInt8} {P:List Pu} {v0 v1:Value} (h:Vg w m P v0 v1) (c:Au Ab w w'):Vg w' m P v0 v1:=by
 obtain⟨M,nb,cb,A,n,c1,l,e0,e1,h1,h2,h3,h4,h5,h6,h7,h8⟩:=h;exact⟨M,nb,cb,A,n,c1,l,e0,e1,h1.chg c (fun _ _ _ h=>h),h2,h3,h4.chg c (fun _ _ _ h=>h),h5,h6,h7,fun x hx=>⟨(h8 x hx).1.chgS c (fun _ _ h=>h) (fun _ _ h=>h),(h8 x hx).2⟩⟩
instance Ajs:AL Tryz.prog 56:=⟨fun _=>by kernel_rfl,fun _=>by kernel_rfl⟩
instance Ajt:AL Tryz.prog 28:=⟨fun _=>by kernel_rfl,fun _=>by kernel_rfl⟩
instance Aju:AL Tryz.prog 55:=⟨fun _=>by kernel_rfl,fun _=>by kernel_rfl⟩
instance Ajv:Cl Tryz.prog 58 2:=⟨by kernel_rfl,_,Tryz.underlying58,rfl⟩
instance Aim:Eb Tryz.prog 58 #[.slice none 0 0, .slice none 0 0]:=⟨.agg #[.slice none 0 0, .slice none 0 0],fun _=>by kernel_rfl,rfl⟩
instance Ajw:Cl Tryz.prog 139 35:=⟨by kernel_rfl,_,Tryz.underlying139,rfl⟩
def Xk:Array Value:=Aw Aq.l++#[.int .i64 0, .slice none 0 0, .slice none 0 0]
instance Ain:Eb Tryz.prog 139 Xk:=⟨.agg Xk,fun _=>by kernel_rfl,rfl⟩
theorem Ws (r:AC):Eg (Af.enc r) (32+1)=some (.slice r.A r.l.length r.c):=by
 rw[←Bp];show(bs r.key.l++r.sig)[33]? =_;rw[List.getElem?_append_right (by rw[Am,r.key.len];decide),Am,r.key.len];rfl
theorem Abm (r:AC):Eg (Af.enc r) (32+2)=some (.slice r.B r.p.length r.k):=by
 rw[←Bp];show(bs r.key.l++r.sig)[34]? =_;rw[List.getElem?_append_right (by rw[Am,r.key.len];decide),Am,r.key.len];rfl
def AC.setC (r:AC) (A:Option Addr) (c:Nat):AC:=⟨r.key,r.leaf,A,c,r.l,r.B,r.k,r.p⟩
def AC.setB (r:AC) (B:Option Addr) (k:Nat):AC:=⟨r.key,r.leaf,r.A,r.c,r.l,B,k,r.p⟩
theorem Abn (r:AC) (A:Option Addr) (c:Nat):Af.enc (r.setC A c)=(Af.enc r).take 33++[.slice A r.l.length c]++(Af.enc r).drop (33+1):=by
 show bs r.key.l++(r.setC A c).sig =(bs r.key.l++r.sig).take 33++_++(bs r.key.l++r.sig).drop 34;rw[List.take_append,List.drop_append,List.take_of_length_le (by rw[Kd];decide),List.drop_of_length_le (by rw[Kd];decide),Kd,List.append_assoc,List.append_assoc];rfl
theorem Abo (r:AC) (B:Option Addr) (k:Nat):Af.enc (r.setB B k)=(Af.enc r).take 34++[.slice B r.p.length k]++(Af.enc r).drop (34+1):=by
 show bs r.key.l++(r.setB B k).sig =(bs r.key.l++r.sig).take 34++_++(bs r.key.l++r.sig).drop 35;rw[List.take_append,List.drop_append,List.take_of_length_le (by rw[Kd];decide),List.drop_of_length_le (by rw[Kd];decide),Kd,List.append_assoc,List.append_assoc];rfl
theorem map_set {α β:Type} (f:α→β) (l:List α) (k:Nat) (x:α) [Af α] (hk:k<l.length) (h:f x=f (gt l k)):(l.set k x).map f=l.map f:=by
 rw[List.map_set,h];have e:gt l k=l[k]:=by simp[gt,List.getD_eq_getElem?_getD,hk]
 rw[e];apply List.ext_getElem?;intro i;rw[List.getElem?_set];split
 ·rename_i h1
  subst h1;rw[if_pos (by simpa using hk)];simp[hk]
 rfl
def Abp (w:World) (S:Nat→Prop) (x:AC):Prop:=CC w x∧(∀ad,x.A=some ad→cellsOf x.l≠[]→¬S ad.block)∧(∀ad,x.B=some ad→cellsOf x.p≠[]→¬S ad.block)∧x.l.length≤100000∧x.p.length≤100000
theorem Abp.chg {w w':World} {S T:Nat→Prop} {x:AC} (h:Abp w S x) (c:Au T w w') (hs: ∀y,T y→S y):Abp w' S x:=⟨⟨h.1.1.chg c (fun hne ad e q=>h.2.1 ad e hne (hs _ q)),h.1.2.chg c (fun hne ad e q=>h.2.2.1 ad e hne (hs _ q))⟩,h.2⟩
theorem Xl (L:List AC) (k:Nat) (r:AC) (h:k<L.length):gt (L.set k r) k=r:=by simp[gt,List.getD_eq_getElem?_getD,h]
end Go.Proofs.YtjjhceeookpieaaGreat
end
section
open Go Go.RowKit
namespace Go.Proofs.YtjjhceeookpieaaGreat
structure JY where
 v0:Value
 v1:Value
 o0:v0.oneCell'=true
 o1:v1.oneCell'=true
instance Ajx:Af JY:=⟨2,fun k=>[k.v0,k.v1],fun _=>rfl,fun k u hu=>by
 simp only[List.mem_cons,List.not_mem_nil,or_false] at hu;rcases hu with rfl|rfl
 ·exact k.o0
 exact k.o1,⟨.slice none 0 0, .slice none 0 0,rfl,rfl⟩⟩
instance Ajy:Bm Tryz.prog 54 58 2 48 (.agg #[.slice none 0 0, .slice none 0 0]):=⟨⟨Tryz.underlying54,by kernel_rfl,rfl,by decide⟩⟩
theorem Vg.one {w:World} {m:List UInt8} {P:List Pu} {v0 v1:Value} (h:Vg w m P v0 v1):v0.oneCell'=true∧v1.oneCell'=true:=by
 obtain⟨M,nb,cb,A,n,c,l,rfl,rfl,_⟩:=h;exact⟨rfl,rfl⟩
theorem Sg (x:JY) (w:World):(Instr.buildSlice 54 1 #[(0, .agg #[x.v0,x.v1])]).run Tryz.prog w= .ok (.slice (some ⟨w.heap.size,0,none⟩) 1 1) (w.alloc (.cells (cellsOf [x]).toArray 58)):=by kernel_rfl
end Go.Proofs.YtjjhceeookpieaaGreat
end
section
open Go Go.RowKit
namespace Go.Proofs.YtjjhceeookpieaaGreat
theorem QY (sd:Ak) (p0 p1:Value) (f:Ak) (g v:Int) (tl:List Value) (i:Nat):(Bg sd p0 p1 f g v tl).toArray.toList.drop (68+i)=tl.drop i:=by
 have e1:Bg sd p0 p1 f g v tl=(bs sd.l++[p0,p1]++bs f.l++[Value.int .i64 g,Value.int .i64 v])++tl:=by simp[Bg]
 have e2:(bs sd.l++[p0,p1]++bs f.l++[Value.int .i64 g,Value.int .i64 v]).length =68:=by simp[Am]
 show(Bg sd p0 p1 f g v tl).drop (68+i)=_;rw[e1,List.drop_append,List.drop_of_length_le (by rw[e2];omega),e2,List.nil_append,Nat.add_sub_cancel_left]
instance Ajz:Cl Tryz.prog 60 6:=⟨by kernel_rfl,_,Tryz.underlying60,rfl⟩
instance Aio:Eb Tryz.prog 60 #[.slice none 0 0, .slice none 0 0, .slice none 0 0, .slice none 0 0, .slice none 0 0, .slice none 0 0]:=⟨.agg #[.slice none 0 0, .slice none 0 0, .slice none 0 0, .slice none 0 0, .slice none 0 0, .slice none 0 0],fun _=>by kernel_rfl,rfl⟩
instance Ak0:AL Tryz.prog 54:=⟨fun _=>by kernel_rfl,fun _=>by kernel_rfl⟩
theorem Aet (a b c d e f:Value) (h1:a.oneCell'=true) (h2:b.oneCell'=true) (h3:c.oneCell'=true) (h4:d.oneCell'=true) (h5:e.oneCell'=true) (h6:f.oneCell'=true):(#[a,b,c,d,e,f]:Array Value).all (·.oneCell')=true:=by
 rw[List.all_toArray,List.all_eq_true];intro u hu;simp only[List.mem_cons,List.not_mem_nil,or_false] at hu;rcases hu with rfl|rfl|rfl|rfl|rfl|rfl<;>assumption
end Go.Proofs.YtjjhceeookpieaaGreat
end
section
set_option maxRecDepth 100000
set_option maxHeartbeats 3200000
open Go Go.RowKit
namespace Go.Proofs.YtjjhceeookpieaaGreat
theorem QZ (sd:Ak) (p0 p1:Value) (f:Ak) (g v:Int) (tl:List Value):Eg (Bg sd p0 p1 f g v tl).toArray.toList 32=some p0:=by
 rw[←Bp];exact LJ sd p0 p1 f g v tl 0
theorem Aip (sd:Ak) (p0 p1:Value) (f:Ak) (g v:Int) (tl:List Value):((Bg sd p0 p1 f g v tl).toArray.toList.drop 34).take 32=bs f.l:=by
 show((Bg sd p0 p1 f g v tl).drop 34).take 32=_;rw[OT,List.drop_left' (Abh sd p0 p1),List.take_left' (Kd f)]
theorem Ra (v e:Int) (w:World):(Instr.build 33 #[(0, .int .i64 v),(1, .int .i64 e)]).run Tryz.prog w= .ok (.agg (BA v e DJ).toArray) w:=by kernel_rfl
theorem Xm (K:List KR) (k:Nat) (r:KR) (h:k<K.length):gt (K.set k r) k=r:=by simp[gt,List.getD_eq_getElem?_getD,h]
theorem Ul (K:List KR) (k j:Nat) (r:KR) (h:j≠k):gt (K.set k r) j=gt K j:=by
 unfold gt;rw[List.getD_eq_getElem?_getD,List.getD_eq_getElem?_getD,List.getElem?_set,if_neg (fun e=>h e.symm)]
theorem Aiq (v e:Int) (K:List KR) (h:0<K.length):Eg (BA v e K).toArray.toList 2=some (.slice (gt K 0).A (gt K 0).n (gt K 0).c):=by
 cases K with
 |nil=>cases h
 |cons k K=>rfl
theorem Sh (v:Int) (root onl:Ak) (w:World):
    Calls Tryz.prog 22 #[.int .i64 v, .agg (Aw root.l), .agg (Aw onl.l)] w fun e w'=>∃K:List KR,e= .returned (.agg (BA v 1073741824 K).toArray)∧K.length=4∧Ag Ab w w':=by
 have kbo: ∀w,_:=Mq onl;have kbv:=Ra v 1073741824;go_enter Tryz.func22,Tryz.ntmps22;go_wp2_with (first|(refine Ji (kbv _) ?_)|(refine Bv 4 ?_;intro zr wzr _ _ _)|(refine Bv 5 ?_;intro zn wzn _ _ _)|(refine BB 6 ?_;intro zo wzo _ _ _)|(refine BB 7 ?_;intro z7 wz7 _ _ _)|(refine Bt ?_;intro ws _ _));have kbk: ∀(a:Option Addr) (w:World),(Instr.build 30 #[(0, .slice a 1 1),(1, .int .i64 1)]).run Tryz.prog w= .ok (.agg (Af.enc (⟨a,1,1,[onl],1⟩:KR)).toArray) w:=fun a w=>OO ⟨a,1,1,[onl],1⟩ w
 have hbr:HB ws zr 23 (Aw root.l):=inferInstance;have hbn:HB ws zn 23 (Aw onl.l):=inferInstance;have hbo:HB ws zo 33 (BA 0 0 DJ).toArray :=inferInstance;have hb7:HB ws z7 33 (BA v 1073741824 DJ).toArray :=inferInstance;have nws:Nw w ws:=⟨(Aa (w0:=w) (w:=ws)).chg⟩;have e1:zr=w.heap.size:=(inferInstance:AW w zr).eq;have e2:zn=wzr.heap.size:=(inferInstance:AW wzr zn).eq;have e3:zo=wzn.heap.size:=(inferInstance:AW wzn zo).eq;have e4:z7=wzo.heap.size:=(inferInstance:AW wzo z7).eq;have l1:zr<wzr.heap.size:=(inferInstance:HB wzr zr 23 (Aw root.l)).out.lt;have l2:zn<wzn.heap.size:=(inferInstance:HB wzn zn 23 (Aw onl.l)).out.lt;have l3:zo<wzo.heap.size:=(inferInstance:HB wzo zo 33 (BA 0 0 DJ).toArray).out.lt;have s1:w.heap.size≤wzr.heap.size:=(inferInstance:Ay w wzr).out;have s2:wzr.heap.size≤wzn.heap.size:=(inferInstance:Ay wzr wzn).out;have s3:wzn.heap.size≤wzo.heap.size:=(inferInstance:Ay wzn wzo).out;have HD:Hid (zr≠z7∧zn≠z7∧zo≠z7∧zo≠zr∧zo≠zn∧w.heap.size≤z7∧w.heap.size≤zo):=Lib.hid ⟨by omega,by omega,by omega,by omega,by omega,by omega,by omega⟩;have o7r:As (only z7) zr:=⟨HD.out.1⟩;have o7n:As (only z7) zn:=⟨HD.out.2.1⟩;have o7o:As (only z7) zo:=⟨HD.out.2.2.1⟩;have a7:Cn w (only z7):=⟨fun x h=>by have h':x=z7:=h;have:=HD.out.2.2.2.2.2.1;omega⟩;clear e1 e2 e3 e4 l1 l2 l3 s1 s2 s3;go_loopw [11] (fun iv wr=>∃(k:Nat) (K:List KR),k≤4∧iv= .int .i64 (k:Int)∧K.length=4∧Nw w wr∧HB wr zr 23 (Aw root.l)∧HB wr zn 23 (Aw onl.l)∧HB wr zo 33 (BA 0 0 DJ).toArray ∧HB wr z7 33 (BA v 1073741824 K).toArray ∧Hid (0<k→∃z0,gt K 0=⟨some ⟨z0,0,none⟩,1,1,[onl],1⟩∧HB wr z0 23 (Aw onl.l)∧z0≠z7∧z0≠zo∧z0≠zr∧w.heap.size≤z0)) (fun iv _=>4 -(intOf iv).toNat)
 case atStart=>exact⟨0,DJ,Nat.zero_le _,rfl,rfl,nws,hbr,hbn,hbo,hb7,Lib.hid (fun h=>absurd h (by decide))⟩
 case round=>
  clear nws hbr hbn hbo hb7;obtain⟨k,K,hk,rfl,hK,nwr,hbr,hbn,hbo,hb7,hz⟩:=hrel;by_cases hlt:k<4
  ·have hltI:(k:Int)<4:=by omega
   have hkl:k<K.length:=by omega
   go_wp2_with (first|(refine BM 16 (kbo _) ?_;intro zb wb _ _ _)|(refine Ji (kbk _ _) ?_)|((with_reducible apply(CD (i:=k) (m:=4)));exact rfl;exact rfl;exact Tryz.underlying31;(kernel_rfl);exact hlt)|((with_reducible apply(Jx (i:=k)));exact rfl;exact rfl;infer_instance;infer_instance;exact hkl;intro wx stx hbx)|(refine Cp ?_));have hzb:wr.heap.size≤zb:=Nat.le_of_eq (inferInstance:AW wr zb).eq.symm;have hrl:=hbr.out.lt;have hol:=hbo.out.lt;have h7l:=hb7.out.lt;have hsw:=nwr.out.size;have nwx:Nw w wx:=inferInstance;refine⟨⟨k+1,K.set k ⟨some ⟨zb,0,none⟩,1,1,[onl],1⟩,by omega,by go_num,by rw[List.length_set];exact hK,nwx,inferInstance,inferInstance,inferInstance,hbx,Lib.hid (fun _=> ?_)⟩,by simp[intOf];omega⟩;by_cases h0:k=0
   ·subst h0;have o7b:As (only z7) zb:=⟨fun e=>by have e':zb=z7:=e;omega⟩;exact⟨zb,Xm K 0 _ hkl,inferInstance,by omega,by omega,by omega,by omega⟩
   obtain⟨z0,hg0,hb0,d1,d2,d3,d4⟩:=hz.out (by omega);have o70:As (only z7) z0:=⟨d1⟩;exact⟨z0,by rw[Ul K k 0 _ (fun e=>h0 e.symm)];exact hg0,inferInstance,d1,d2,d3,d4⟩
  have hltI: ¬(k:Int)<4:=by omega
  have hk4:0<k:=by omega
  have hkl0:0<K.length:=by omega
  obtain⟨z0,hg0,hb0,d1,d2,d3,d4⟩:=hz.out hk4;have hc2:Eg (BA v 1073741824 K).toArray.toList 2=some (.slice (some ⟨z0,0,none⟩) 1 1):=by rw[Aiq _ _ _ hkl0,hg0]
  have o0r:As (only z0) zr:=⟨fun e=>d3 (show zr=z0 from e).symm⟩;have o0o:As (only z0) zo:=⟨fun e=>d2 (show zo=z0 from e).symm⟩;have o07:As (only z0) z7:=⟨fun e=>d1 (show z7=z0 from e).symm⟩;have ooo:As (only zo) z7:=⟨fun e=>HD.out.2.2.1 (show z7=zo from e).symm⟩;have a0:Cn w (only z0):=⟨fun x h=>by have h':x=z0:=h;omega⟩;have ao:Cn w (only zo):=⟨fun x h=>by have h':x=zo:=h;have:=HD.out.2.2.2.2.2.2;omega⟩;have hsz:=BG v 1073741824 K hK;have hone:=Bq v 1073741824 K;have hrH:HR wr (some ⟨z0,0,none⟩) (cellsOf [onl]):=⟨by
   have h9:=hb0.rdL;have e9:cellsOf [onl]=(Aw onl.l).toList :=by
    show bs onl.l++[]=_;rw[List.append_nil];rfl
   rw[e9];exact h9⟩
  clear hg0;go_wp2_with (first|(refine SS 2 hb7 hc2 ?_)|(refine Cp ?_)|(refine Bt ?_;intro ws _ _));exact Bo rfl rfl (n:=10) hsz rfl ⟨K,rfl,hK,Aa⟩
def FF (a b:Nat):Nat→Prop:=fun x=>x=a∨x=b
instance KE.twoA (w:World) (a b:Nat):KE w (only a) (FF a b):=⟨fun _ _ h=> .inl h⟩
instance KE.twoB (w:World) (a b:Nat):KE w (only b) (FF a b):=⟨fun _ _ h=> .inr h⟩
theorem Um {sd f:Ak} {p1:Value} {g v:Int} {tl:List Value} {zr zk:Nat} {seed:Ak} {used:Int} {w:World} [hb:HB w zr 84 (Bg sd (.pointer (some ⟨zk,0,none⟩)) p1 f g v tl).toArray] [hk:AH w zk seed used] (hne:zk≠zr):
    Calls Tryz.prog 7 #[.pointer (some ⟨zr,0,none⟩)] w fun e w'=>∃K:List KR,e= .returned (.agg (BA 1 1073741824 K).toArray)∧K.length=4∧Ag (only zk) w w'∧AH w' zk seed used:=by
 have hzk:=hk.lt;have hzr:=hb.out.lt;go_enter Tryz.func7,Tryz.ntmps7;go_wp2_with (first|(refine BB 2 ?_;intro zo wzo _ _ _));have hzo:w.heap.size≤zo:=Nat.le_of_eq (inferInstance:AW w zo).eq.symm;have hbo:HB wzo zo 33 (BA 0 0 DJ).toArray :=inferInstance;have hkr:AH wzo zk seed used:=inferInstance;have hbr:HB wzo zr 84 (Bg sd (.pointer (some ⟨zk,0,none⟩)) p1 f g v tl).toArray :=inferInstance;have otr:As (FF zk zo) zr:=⟨fun h=>by rcases h with h|h<;>omega⟩;have oko:As (only zk) zo:=⟨fun e=>by have e':zo=zk:=e;omega⟩;have ook:As (only zo) zk:=⟨fun e=>by have e':zk=zo:=e;omega⟩;refine Ah ((FF zk zo)) (by kernel_rfl) (fun wd _ _=> ?_);refine YS 0 ?_;refine YS 1 ?_;refine YS 2 ?_;refine IS 3 32 (QZ _ _ _ _ _ _ _) ?_;refine YS 5 ?_;refine YS 6 ?_;refine YS 7 ?_;refine' tk 8 _ rfl (by kernel_rfl) (by kernel_rfl) (by kernel_rfl) (fun _ _ _ h=>h) (yo (by rfl) fun w' _=> ?_) inferInstance ?_;rotate_left
 ·((apply(Ew (k:=34) (n:=32)));exact rfl;infer_instance;infer_instance;(decide);exact Aip _ _ _ _ _ _ _;(rw[Am,Ak.len]))
 try simp only[Act.put,sA,sB,sC]
 refine Yg 4 fun K_ hK_=> ?_
 go_simp;refine(Bx (zk:=zk) (seed:=seed) (used:=used)).mono ?_;rintro e w5 ⟨rfl,st5,hk5⟩;refine Yz hK_ ?_;clear hK_ K_;refine Yg 9 fun K_ hK_=> ?_
 go_simp;refine(Sh 1 _ _ _).mono ?_;rintro e w6 ⟨K,rfl,hK,st6⟩;have hsz:Hid ((BA 1 1073741824 K).toArray.size =10):=Lib.hid (BG _ _ K hK);refine Yz hK_ ?_;clear hK_ K_;refine Yh 10 fun K_ hK_=> ?_
 (first|(refine NN hsz.out (BG 0 0 DJ rfl) (Bq _ _ _) ?_;intro wz stz hz)|(refine Bt ?_;intro ws _ _)|(refine KZ ?_;intro ws _ _)|(refine WSH 23 ?_;intro ws _ _)|((with_reducible apply(Es (t:=5)));exact rfl;exact rfl;infer_instance;(first|(with_reducible assumption)|omega);(first|(with_reducible assumption)|omega);(first|(constructor<;>omega)|exact Ib _ _);intro ws _ _)|(refine ZD 3 ?_;intro ws _ _)|(refine WSX 5 ?_;intro ws _ _))
 refine Ym hK_ ?_;clear hK_ K_;refine Yd ?_
 all_goals
  have hkw:AH wz zk seed used:=inferInstance;have hcw:Au (FF zk zo) wzo wz:=(inferInstance:Ch (FF zk zo) wzo wz).out;have hcs:Au Ab w wzo:=(Aa (w0:=w) (w:=wzo)).chg;have hfin:Au (only zk) w wz:=(hcs.mono (T:=only zk) (fun _ _ h=>h.elim)).trans hcw (fun x hx h=>by
   rcases h with h|h
   ·exact h
   omega)
  go_wp2_with fail;exact Bo rfl rfl (n:=10) hsz.out rfl ⟨K,rfl,hK,⟨hfin⟩,hkw⟩
end Go.Proofs.YtjjhceeookpieaaGreat
end
section
set_option maxRecDepth 100000
set_option maxHeartbeats 3200000
open Go Go.RowKit
namespace Go.Proofs.YtjjhceeookpieaaGreat
def ZE (z:Nat) (h:Ak):KR:=⟨some ⟨z,0,none⟩,1,1,[h],1⟩
def Vf (root onl:Ak):List (List Ak×Int):=[([root],1),([onl],1),([onl],1),([onl],1)]
theorem Ae6 (v e:Int) (K:List KR) (z:Nat) (a b:Ak) (h:0<K.length) (hg:gt K 0=ZE z a):BA v e (K.set 0 (ZE z b))=BA v e K:=by
 cases K with
 |nil=>cases h
 |cons k K=>
  have e:k=ZE z a:=hg;subst e;rfl
theorem Ae7 {w:World} {z:Nat} {h:Ak} {t:TypeId} (hb:HB w z t (Aw h.l)):BN w (ZE z h):=⟨by
 have e9:cellsOf [h]=(Aw h.l).toList :=by
  show bs h.l++[]=_;rw[List.append_nil];rfl
 show Rd w _ (cellsOf [h]);rw[e9];exact hb.rdL,rfl,Nat.le_refl _,by show 1≤1000;decide⟩
theorem Ae8 {K:List KR} (h:K.length=4):K=[gt K 0,gt K 1,gt K 2,gt K 3]:=by
 match K,h with
 |[a,b,c,d],_=>rfl
theorem Ae9 (h:Ak):Nf [h] 1=true:=rfl
theorem FU (v:Int) (root onl:Ak) (h:BE v=true):FW v 1073741824 (Vf root onl)=true:=by
 unfold FW Vf;simp[h,Ca,Ae9]
theorem Ku (v:Int) (root onl:Ak) (w:World):
    Calls Tryz.prog 22 #[.int .i64 v, .agg (Aw root.l), .agg (Aw onl.l)] w fun e w'=>∃K:List KR,e= .returned (.agg (BA v 1073741824 K).toArray)∧K.length=4∧Ag Ab w w'∧Hid ((∀k∈K,BN w' k∧Aj w k.A)∧K.map KR.m=Vf root onl):=by
 have kbo: ∀w,_:=Mq onl;have kbv:=Ra v 1073741824;go_enter Tryz.func22,Tryz.ntmps22;go_wp2_with (first|(refine Ji (kbv _) ?_)|(refine Bv 4 ?_;intro zr wzr _ _ _)|(refine Bv 5 ?_;intro zn wzn _ _ _)|(refine BB 6 ?_;intro zo wzo _ _ _)|(refine BB 7 ?_;intro z7 wz7 _ _ _)|(refine Bt ?_;intro ws _ _));have kbk: ∀(a:Option Addr) (w:World),(Instr.build 30 #[(0, .slice a 1 1),(1, .int .i64 1)]).run Tryz.prog w= .ok (.agg (Af.enc (⟨a,1,1,[onl],1⟩:KR)).toArray) w:=fun a w=>OO ⟨a,1,1,[onl],1⟩ w
 have hbr:HB ws zr 23 (Aw root.l):=inferInstance;have hbn:HB ws zn 23 (Aw onl.l):=inferInstance;have hbo:HB ws zo 33 (BA 0 0 DJ).toArray :=inferInstance;have hb7:HB ws z7 33 (BA v 1073741824 DJ).toArray :=inferInstance;have nws:Nw w ws:=⟨(Aa (w0:=w) (w:=ws)).chg⟩;have e1:zr=w.heap.size:=(inferInstance:AW w zr).eq;have e2:zn=wzr.heap.size:=(inferInstance:AW wzr zn).eq;have e3:zo=wzn.heap.size:=(inferInstance:AW wzn zo).eq;have e4:z7=wzo.heap.size:=(inferInstance:AW wzo z7).eq;have l1:zr<wzr.heap.size:=(inferInstance:HB wzr zr 23 (Aw root.l)).out.lt;have l2:zn<wzn.heap.size:=(inferInstance:HB wzn zn 23 (Aw onl.l)).out.lt;have l3:zo<wzo.heap.size:=(inferInstance:HB wzo zo 33 (BA 0 0 DJ).toArray).out.lt;have s1:w.heap.size≤wzr.heap.size:=(inferInstance:Ay w wzr).out;have s2:wzr.heap.size≤wzn.heap.size:=(inferInstance:Ay wzr wzn).out;have s3:wzn.heap.size≤wzo.heap.size:=(inferInstance:Ay wzn wzo).out;have HD:Hid (zr≠z7∧zn≠z7∧zo≠z7∧zo≠zr∧zo≠zn∧w.heap.size≤z7∧w.heap.size≤zo):=Lib.hid ⟨by omega,by omega,by omega,by omega,by omega,by omega,by omega⟩;have o7r:As (only z7) zr:=⟨HD.out.1⟩;have o7n:As (only z7) zn:=⟨HD.out.2.1⟩;have o7o:As (only z7) zo:=⟨HD.out.2.2.1⟩;have a7:Cn w (only z7):=⟨fun x h=>by have h':x=z7:=h;have:=HD.out.2.2.2.2.2.1;omega⟩;clear e1 e2 e3 e4 l1 l2 l3 s1 s2 s3;go_loopw [11] (fun iv wr=>∃(k:Nat) (K:List KR),k≤4∧iv= .int .i64 (k:Int)∧K.length=4∧Nw w wr∧HB wr zr 23 (Aw root.l)∧HB wr zn 23 (Aw onl.l)∧HB wr zo 33 (BA 0 0 DJ).toArray ∧HB wr z7 33 (BA v 1073741824 K).toArray ∧Hid (∃Z:Nat→Nat,(∀i,i<k→gt K i=ZE (Z i) onl∧HB wr (Z i) 23 (Aw onl.l)∧Z i≠z7∧Z i≠zo∧Z i≠zr∧w.heap.size≤Z i)∧∀i j,i<j→j<k→Z i≠Z j)) (fun iv _=>4 -(intOf iv).toNat)
 case atStart=>exact⟨0,DJ,Nat.zero_le _,rfl,rfl,nws,hbr,hbn,hbo,hb7,Lib.hid ⟨fun _=>0,fun i h=>absurd h (Nat.not_lt_zero _),fun i j _ h=>absurd h (Nat.not_lt_zero _)⟩⟩
 case round=>
  clear nws hbr hbn hbo hb7;obtain⟨k,K,hk,rfl,hK,nwr,hbr,hbn,hbo,hb7,hz⟩:=hrel;by_cases hlt:k<4
  ·have hltI:(k:Int)<4:=by omega
   have hkl:k<K.length:=by omega
   go_wp2_with (first|(refine BM 16 (kbo _) ?_;intro zb wb _ _ _)|(refine Ji (kbk _ _) ?_)|((with_reducible apply(CD (i:=k) (m:=4)));exact rfl;exact rfl;exact Tryz.underlying31;(kernel_rfl);exact hlt)|((with_reducible apply(Jx (i:=k)));exact rfl;exact rfl;infer_instance;infer_instance;exact hkl;intro wx stx hbx)|(refine Cp ?_));have hzb:wr.heap.size≤zb:=Nat.le_of_eq (inferInstance:AW wr zb).eq.symm;have hrl:=hbr.out.lt;have hol:=hbo.out.lt;have h7l:=hb7.out.lt;have hsw:=nwr.out.size;have nwx:Nw w wx:=inferInstance;refine⟨⟨k+1,K.set k (ZE zb onl),by omega,by go_num,by rw[List.length_set];exact hK,nwx,inferInstance,inferInstance,inferInstance,hbx,Lib.hid ?_⟩,by simp[intOf];omega⟩;obtain⟨Z,hZ1,hZ2⟩:=hz.out;refine⟨fun i=>if i=k then zb else Z i,fun i hi=> ?_,fun i j hij hj=> ?_⟩
   ·by_cases hik:i=k
    ·subst hik;have o7b:As (only z7) zb:=⟨fun e=>by have e':zb=z7:=e;omega⟩;have hzz:HB wx zb 23 (Aw onl.l):=inferInstance
     dsimp only
     rw[if_pos rfl];exact⟨Xm K i _ hkl,hzz,by omega,by omega,by omega,by omega⟩
    obtain⟨q1,hb0,d1,d2,d3,d4⟩:=hZ1 i (by omega);have o70:As (only z7) (Z i):=⟨d1⟩;have hzz:HB wx (Z i) 23 (Aw onl.l):=inferInstance
    dsimp only
    rw[if_neg hik];exact⟨by rw[Ul K k i _ hik];exact q1,hzz,d1,d2,d3,d4⟩
   have hi0:i≠k:=by omega
   dsimp only
   rw[if_neg hi0];by_cases hjk:j=k
   ·rw[if_pos hjk];have h9:=(hZ1 i (by omega)).2.1.out.lt;omega
   rw[if_neg hjk];exact hZ2 i j hij (by omega)
  have hltI: ¬(k:Int)<4:=by omega
  have hk4:0<k:=by omega
  have hkl0:0<K.length:=by omega
  obtain⟨Z,hZ1,hZ2⟩:=hz.out;obtain⟨hg0,hb0,d1,d2,d3,d4⟩:=hZ1 0 (by omega);obtain⟨hg1,hb1,a1,a2,a3,a4⟩:=hZ1 1 (by omega);obtain⟨hg2,hb2,b1,b2,b3,b4⟩:=hZ1 2 (by omega);obtain⟨hg3,hb3,c1,c2,c3,c4⟩:=hZ1 3 (by omega);have n01:=hZ2 0 1 (by omega) (by omega);have n02:=hZ2 0 2 (by omega) (by omega);have n03:=hZ2 0 3 (by omega) (by omega);obtain⟨z0,hz0⟩: ∃z,z=Z 0:=⟨_,rfl⟩;obtain⟨z1,hz1⟩: ∃z,z=Z 1:=⟨_,rfl⟩;obtain⟨z2,hz2⟩: ∃z,z=Z 2:=⟨_,rfl⟩;obtain⟨z3,hz3⟩: ∃z,z=Z 3:=⟨_,rfl⟩;rw[←hz0] at hg0 hb0 d1 d2 d3 d4 n01 n02 n03;rw[←hz1] at hg1 hb1 n01 a2 a4;rw[←hz2] at hg2 hb2 n02 b2 b4;rw[←hz3] at hg3 hb3 n03 c2 c4;clear hZ1 hZ2 hz0 hz1 hz2 hz3 hz;have o01:As (only z0) z1:=⟨fun e=>n01 (show z1=z0 from e).symm⟩;have o02:As (only z0) z2:=⟨fun e=>n02 (show z2=z0 from e).symm⟩;have o03:As (only z0) z3:=⟨fun e=>n03 (show z3=z0 from e).symm⟩;have oo0:As (only zo) z0:=⟨d2⟩;have oo1:As (only zo) z1:=⟨a2⟩;have oo2:As (only zo) z2:=⟨b2⟩;have oo3:As (only zo) z3:=⟨c2⟩;have hc2:Eg (BA v 1073741824 K).toArray.toList 2=some (.slice (some ⟨z0,0,none⟩) 1 1):=by rw[Aiq _ _ _ hkl0,hg0];rfl
  have o0r:As (only z0) zr:=⟨fun e=>d3 (show zr=z0 from e).symm⟩;have o0o:As (only z0) zo:=⟨fun e=>d2 (show zo=z0 from e).symm⟩;have o07:As (only z0) z7:=⟨fun e=>d1 (show z7=z0 from e).symm⟩;have ooo:As (only zo) z7:=⟨fun e=>HD.out.2.2.1 (show z7=zo from e).symm⟩;have a0:Cn w (only z0):=⟨fun x h=>by have h':x=z0:=h;omega⟩;have ao:Cn w (only zo):=⟨fun x h=>by have h':x=zo:=h;have:=HD.out.2.2.2.2.2.2;omega⟩;have hsz:=BG v 1073741824 K hK;have hone:=Bq v 1073741824 K;have hrH:HR wr (some ⟨z0,0,none⟩) (cellsOf [onl]):=⟨by
   have h9:=hb0.rdL;have e9:cellsOf [onl]=(Aw onl.l).toList :=by
    show bs onl.l++[]=_;rw[List.append_nil];rfl
   rw[e9];exact h9⟩
  have HG:=Lib.hid (And.intro hg0 (And.intro hg1 (And.intro hg2 hg3)));clear hg0 hg1 hg2 hg3;go_wp2_with (first|(refine SS 2 hb7 hc2 ?_)|(refine Cp ?_)|(refine Bt ?_;intro ws _ _));have hwf:HB ws z0 23 (Aw root.l):=inferInstance;have hw1:HB ws z1 23 (Aw onl.l):=inferInstance;have hw2:HB ws z2 23 (Aw onl.l):=inferInstance;have hw3:HB ws z3 23 (Aw onl.l):=inferInstance;have hrt:=Ae6 v 1073741824 K z0 onl root hkl0 HG.out.1;have hKe:K.set 0 (ZE z0 root)=[ZE z0 root,ZE z1 onl,ZE z2 onl,ZE z3 onl]:=by
   rw[Ae8 hK,HG.out.1,HG.out.2.1,HG.out.2.2.1,HG.out.2.2.2];rfl
  refine Bo rfl rfl (n:=10) hsz rfl ⟨K.set 0 (ZE z0 root),by rw[hrt],by rw[List.length_set];exact hK,Aa,Lib.hid ⟨?_, ?_⟩⟩
  ·rw[hKe];intro k hk;simp only[List.mem_cons,List.not_mem_nil,or_false] at hk;rcases hk with rfl|rfl|rfl|rfl
   ·exact⟨Ae7 hwf,⟨fun ad e=>by have e':some (⟨_,0,none⟩:Addr)=some ad:=e;injection e' with e';rw[←e'];exact d4⟩⟩
   ·exact⟨Ae7 hw1,⟨fun ad e=>by have e':some (⟨_,0,none⟩:Addr)=some ad:=e;injection e' with e';rw[←e'];exact a4⟩⟩
   ·exact⟨Ae7 hw2,⟨fun ad e=>by have e':some (⟨_,0,none⟩:Addr)=some ad:=e;injection e' with e';rw[←e'];exact b4⟩⟩
   exact⟨Ae7 hw3,⟨fun ad e=>by have e':some (⟨_,0,none⟩:Addr)=some ad:=e;injection e' with e';rw[←e'];exact c4⟩⟩
  rw[hKe];rfl
theorem CW (v:Int) (root onl:Ak) (w:World):
    Calls Tryz.prog 22 #[.int .i64 v, .agg (Aw root.l), .agg (Aw onl.l)] w fun e w'=>∃K:List KR,e= .returned (.agg (BA v 1073741824 K).toArray)∧K.length=4∧Ag Ab w w'∧Hid ((∀k∈K,BN w' k)∧K.map KR.m=Vf root onl):=
 (Ku v root onl w).mono fun _ _ ⟨K,h1,h2,h3,h4⟩=>⟨K,h1,h2,h3,Lib.hid ⟨fun k hk=>(h4.out.1 k hk).1,h4.out.2⟩⟩
end Go.Proofs.YtjjhceeookpieaaGreat
end
