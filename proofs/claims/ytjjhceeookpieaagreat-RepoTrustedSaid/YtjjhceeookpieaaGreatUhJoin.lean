/- UhJoin, UhRoom -/
import Derived.Test.YtjjhceeookpieaaGreatUhBase
import Derived.Test.YtjjhceeookpieaaGreatShelf
section
set_option maxRecDepth 100000
open Go Go.RowKit
namespace Go.Proofs.YtjjhceeookpieaaGreat
theorem VD (zs:List Int) (h: ∀x∈zs,0≤x∧x<256):bs (Lib.bytesOf zs)=zs.map (.int .u8):=by
 unfold bs Lib.bytesOf;rw[List.map_map];apply List.map_congr_left;intro x hx;have:=h x hx;simp[GV];omega
structure Oe (w:World) (A:Option Addr) (n c:Nat) (xs:List UInt8):Prop where
 len:xs.length=n
 le:n≤c
 max:c≤maxLen
 at_:(A=none∧c=0)∨∃(g:Nat) (zs:List UInt8),A=some ⟨g,0,none⟩∧zs.length=c∧zs.take n=xs∧Rd w A (bs zs)∧∀i,i<c→w.frozen? ⟨g,i,none⟩=false
theorem Oe.rd {w:World} {A:Option Addr} {n c:Nat} {xs:List UInt8} (h:Oe w A n c xs):Rd w A (bs xs):=by
 rcases h.at_ with⟨_,h0⟩|⟨g,zs,_,_,ht,hr,_⟩
 ·have h1:=h.len;have h2:=h.le;have:xs=[]:=List.eq_nil_of_length_eq_zero (by omega);subst this;exact Rd.nil _ _
 rw[←ht,←It];exact hr.take n
theorem Oe.none (w:World):Oe w none 0 0 []:=⟨rfl,Nat.le_refl _,Nat.zero_le _, .inl ⟨rfl,rfl⟩⟩
theorem Oe.of_fresh {B:Nat} {w:World} {v:Value} {l:List UInt8} (h:Lib.FreshBytes B w v l): ∃A n c,v= .slice A n c∧Oe w A n c l∧∀ad,A=some ad→B≤ad.block:=by
 obtain⟨g,cap,zs,rfl,hB,hle,hm,hz,hrng,hb,hc,hf⟩:=h;refine⟨_,_,_,rfl,⟨rfl,hle,hm, .inr ⟨g,Lib.bytesOf zs,rfl,by simpa[Lib.bytesOf] using hz, ?_, ?_,hf⟩⟩,fun ad e=>by injection e with e;subst e;exact hB⟩
 ·conv=>rhs;rw[←hb]
  unfold Lib.bytesOf;exact List.map_take.symm
 rw[VD zs hrng];intro k u hk;refine⟨_,rfl, ?_⟩;have hk':k<zs.length:=by simpa using(List.getElem?_eq_some_iff.1 hk).1
 rw[DQ,hc k (by omega)];simp only[List.getElem?_map,List.getElem?_eq_getElem hk',Option.map_some,Option.some.injEq] at hk;rw[←hk,List.getD_eq_getElem?_getD,List.getElem?_eq_getElem hk'];rfl
theorem Of {w:World} {a:Addr} {v:Value} (h:w.cell? a=some v):a=⟨a.block,a.off,none⟩:=by
 rcases a with⟨b,o,s⟩
 cases s with
 |none=>rfl
 |some x=>
  unfold World.cell? at h;split at h
  ·simp at h
  cases h
theorem Yk {w:World} {r:La} (h:Rd w r.A (bs r.p)):Lib.HoldsBytes w r.v r.p:=by
 refine⟨r.A,r.c,rfl,fun hn=> ?_,fun a ha i x hx=> ?_⟩
 ·rcases hp:r.p with _|⟨x,l⟩
  ·rfl
  obtain⟨ad,e,_⟩:=h 0 (GV x) (by rw[hp];rfl);rw[hn] at e;cases e
 obtain⟨ad,e,hc⟩:=h i (GV x) (by simp[bs,hx]);rw[ha] at e;injection e with e
 subst e;exact hc
theorem Yl (ls:List (List UInt8)):Lib.join ls []=ls.flatten:=by
 cases ls with
 |nil=>rfl
 |cons x r=>
  rw[Lib.join_cons];unfold Lib.joinTail;simp
theorem MZ (A:Option Addr) (n c:Nat) (l:List La) (w:World) (hr:Rd w A (NQ l)) (hn:l.length=n) (hcap:n≤c) (hrow:Iu w l) (hx:Lib.lens (l.map (·.p))≤140737488355328) (hn47:n≤140737488355328):
    Calls Tryz.prog 95 #[.slice A n c, .slice none 0 0] w fun e w'=>∃A' n' c',e= .returned (.slice A' n' c')∧Hid (Oe w' A' n' c' (l.map (·.p)).flatten)∧Hid (Au Ab w w')∧Hid (∀ad,A'=some ad→w.heap.size≤ad.block):=by
 match l,hn with
 |[],hn=>
  obtain rfl:n=0:=hn.symm;refine(Tryz.bytes_Join_none A c _ w).mono ?_;rintro e w' ⟨rfl,rfl⟩;exact⟨_,0,0,rfl,⟨rfl,Nat.le_refl _,Nat.zero_le _, .inr ⟨_,[],rfl,rfl,rfl,Rd.nil _ _,fun i h=>by omega⟩⟩,(Au.refl _ _).alloc _,fun ad e=>by injection e with e;subst e;exact Nat.le_refl _⟩
 |[r],hn=>
  obtain rfl:n=1:=hn.symm;obtain⟨ad,rfl,hc⟩:=hr 0 r.v rfl;rw[Be] at hc;have hpl:=Of hc;have hq:=hrow r (List.mem_singleton.2 rfl);rcases hp:r.p with _|⟨x,p⟩
  ·have hc':w.cell? ⟨ad.block,ad.off,none⟩=some (.slice r.A 0 r.c):=by
     rw[←hpl,hc,La.v,hp];rfl
   rw[hpl];refine(Tryz.bytes_Join_one_empty ad.block ad.off c r.A r.c _ w hc').mono ?_;rintro e w' ⟨rfl,rfl⟩;refine⟨none,0,0,rfl, ?_,Au.refl _ _,fun ad e=>by cases e⟩;rw[show([r].map (·.p)).flatten =[] by simp[hp]];exact Oe.none _
  obtain⟨ad0,hA0,hc0⟩:=hq 0 (GV x) (by rw[hp];rfl);have hc':w.cell? ⟨ad.block,ad.off,none⟩=some (.slice (some ad0) r.p.length r.c):=by rw[←hpl,hc,La.v,hA0]
  rw[hpl];refine(Tryz.bytes_Join_one ad.block ad.off c ad0 r.c r.p _ w hc' ?_ (by rw[hp];simp) (by simp[Lib.lens] at hx;omega)).mono ?_
  ·intro i y hy;obtain⟨ad1,e1,h1⟩:=hq i (GV y) (by simp[bs,hy]);rw[hA0] at e1;injection e1 with e1
   subst e1;exact h1
  rintro e w' ⟨v',rfl,hf,hb⟩;obtain⟨A',n',c',rfl,h1,h2⟩:=Oe.of_fresh hf;refine⟨A',n',c',rfl, ?_,Au.of_below hb _,h2⟩;rw[show([r].map (·.p)).flatten =r.p by simp];exact h1
 |r1::r2::l,hn=>
  obtain⟨ad,rfl,hc⟩:=hr 0 r1.v rfl;rw[Be] at hc;have hpl:=Of hc;rw[hpl] at hr⊢;have hP:Lib.PartsAt w ⟨ad.block,ad.off,none⟩ (NQ (r1::r2::l)) ((r1::r2::l).map (·.p)):=by
   refine⟨by simp[NQ],fun i v hv=> ?_,fun i v p hv hp=> ?_⟩
   ·obtain⟨ad1,e1,h1⟩:=hr i v hv;injection e1 with e1
    subst e1;exact h1
   simp only[NQ,List.getElem?_map,Option.map_eq_some_iff] at hv hp;obtain⟨r,hr1,rfl⟩:=hv;obtain⟨r',hr2,rfl⟩:=hp;rw[hr1] at hr2;injection hr2 with hr2
   subst hr2;exact Yk (hrow r (List.mem_of_getElem? hr1))
  refine(Tryz.bytes_Join_many ad.block ad.off n c _ ((r1::r2::l).map (·.p)) _ [] w (by rw[List.length_map,hn]) (by simp at hn;omega) hP hcap ⟨none,0,rfl,fun _=>rfl,fun a e=>by cases e⟩ hn47 (by simpa using hx)).mono ?_;rintro e w' ⟨v',rfl,hf,hb⟩;obtain⟨A',n',c',rfl,h1,h2⟩:=Oe.of_fresh hf;rw[Yl] at h1;exact⟨A',n',c',rfl,h1,Au.of_below hb _,h2⟩
end Go.Proofs.YtjjhceeookpieaaGreat
end
section
open Go Go.RowKit
namespace Go.Proofs.YtjjhceeookpieaaGreat
end Go.Proofs.YtjjhceeookpieaaGreat
end
