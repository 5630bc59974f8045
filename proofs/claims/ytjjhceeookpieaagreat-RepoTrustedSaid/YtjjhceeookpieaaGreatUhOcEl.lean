/- UhOcEl, UhFr, UhOcW, UhOcWB, UhOcRfA, UhOcRfB, UhOcRfC, UhRdA, UhRdB, UhRdC, UhRdN, UhRdD, UhRrA, UhRrB, UhRrC -/
import Derived.Test.YtjjhceeookpieaaGreatUhBase
import Derived.Test.YtjjhceeookpieaaGreatProg
import Derived.Test.YtjjhceeookpieaaGreatUhOcSpec
section
open Go Go.RowKit
namespace Go.Proofs.YtjjhceeookpieaaGreat
theorem Gk:Vl Tryz.prog 55 5 1 1 (.int .u8 0):=⟨Tryz.underlying55,by kernel_rfl,rfl,by omega⟩
theorem Ol (w:World):Cm (w.alloc (.cells #[] 5)) 5 1 (some ⟨w.heap.size,0,none⟩) 0 0 (bs []):=Cm.new w _ 1 0 #[] (by simp[maxLen]) rfl
end Go.Proofs.YtjjhceeookpieaaGreat
end
section
open Go Go.RowKit
namespace Go.Proofs.YtjjhceeookpieaaGreat
structure Co (w0 w:World) (A:Option Addr) (n c:Nat) (xs:List UInt8):Prop where
 own:Cm w 5 1 A n c (bs xs)
 len:n=xs.length
 chg:Au Ab w0 w
 new: ∀ad,A=some ad→w0.heap.size≤ad.block
theorem Co.nil (w:World):Co w w none 0 0 []:=⟨Cm.nil _ _ _,rfl,Au.refl _ _,fun ad e=>by cases e⟩
theorem Co.push {w0 w wx w2:World} {A A':Option Addr} {n c n' c':Nat} {xs ys:List UInt8} (h:Co w0 w A n c xs) (h0:Au Ab w wx) (hc:Au (fun k=>∃ad,A=some ad∧ad.block=k) wx w2)
    (ho:Cm w2 5 1 A' n' c' (bs ys)) (hn:n'=ys.length) (hA:A'=A∨∃z,A'=some ⟨z,0,none⟩∧w.heap.size≤z):Co w0 w2 A' n' c' ys:=by
 refine⟨ho,hn,(h.chg.step h0 (fun _ h=>h.elim)).step hc ?_, ?_⟩
 ·rintro x ⟨ad,e,rfl⟩;exact h.new ad e
 rintro ad rfl;rcases hA with e|⟨z,e,hz⟩
 ·exact h.new ad e.symm
 injection e with e
 subst e;have:=h.chg.size;show w0.heap.size≤z;omega
theorem Co.rd {w0 w:World} {A:Option Addr} {n c:Nat} {xs:List UInt8} (h:Co w0 w A n c xs):Rd w A (bs xs):=h.own.rd
theorem Qy (w:World) (o:Obj):Cm ((w.alloc o).alloc (.cells #[] 5)) 5 1 (some ⟨w.heap.size+1,0,none⟩) 0 0 (bs []):=by
 have h:=Ol (w.alloc o);simpa using h
theorem Co.lit1 (w:World) (o:Obj):Co (w.alloc o) ((w.alloc o).alloc (.cells #[] 5)) (some ⟨w.heap.size+1,0,none⟩) 0 0 []:=⟨Qy w o,rfl,(Au.refl _ _).alloc _,fun ad e=>by injection e with e;subst e;simp⟩
theorem Co.one {w0 w w2:World} {A A':Option Addr} {n c c':Nat} {xs:List UInt8} {b:UInt8} {o:Obj} (h:Co w0 w A n c xs) (hc:Au (fun k=>∃ad,A=some ad∧ad.block=k) (w.alloc o) w2)
    (ho:Cm w2 5 1 A' (n+1) c' (bs xs++[.int .u8 (b.toNat:Int)])) (hA:A'=A∨A'=some ⟨w.heap.size+1,0,none⟩):Co w0 w2 A' (n+1) c' (xs++[b]):=by
 refine h.push (wx:=w.alloc o) ((Au.refl _ _).alloc _) hc (by simpa[bs,GV] using ho) (by simp[h.len]) (hA.imp id fun e=>⟨_,e,Nat.le_succ _⟩)
theorem Co.many {w0 w w2:World} {A A':Option Addr} {n m c c':Nat} {xs ys:List UInt8} (h:Co w0 w A n c xs) (hm:ys.length=m) (hc:Au (fun k=>∃ad,A=some ad∧ad.block=k) w w2)
    (ho:Cm w2 5 1 A' (n+m) c' (bs xs++bs ys)) (hA:A'=A∨∃z,A'=some ⟨z,0,none⟩∧w.heap.size≤z):Co w0 w2 A' (n+m) c' (xs++ys):=by
 refine h.push (wx:=w) (Au.refl _ _) hc (by rw[EW] at ho;exact ho) (by simp[h.len,hm]) hA
theorem Co.le {w0 w:World} {A:Option Addr} {n c:Nat} {xs:List UInt8} (h:Co w0 w A n c xs):n≤c:=by
 rcases h.own.form with⟨_,h1,h2,_⟩|⟨_,_,_,_,h1,_⟩<;>omega
end Go.Proofs.YtjjhceeookpieaaGreat
end
section
set_option maxRecDepth 100000
set_option maxHeartbeats 400000
open Go Go.RowKit
namespace Go.Proofs.YtjjhceeookpieaaGreat
structure Cz (w:World) (g:Nat) (A:Option Addr) (xs:List UInt8):Prop where
 ex: ∃n c,n=xs.length∧AT w g 195 #[.slice A n c]∧Cm w 5 1 A n c (bs xs)
 far: ∀ad,A=some ad→ad.block≠g
theorem Cz.lt {w:World} {g:Nat} {A:Option Addr} {xs:List UInt8} (h:Cz w g A xs):g<w.heap.size:=by
 obtain⟨⟨_,_,_,hb,_⟩,_⟩:=h;exact hb.lt
theorem Cz.old {w:World} {g:Nat} {A:Option Addr} {xs:List UInt8} (h:Cz w g A xs): ∀k,Wf g A k→k<w.heap.size:=by
 obtain⟨⟨_,_,_,hb,ho⟩,_⟩:=h;rintro k (rfl|⟨ad,e,rfl⟩)
 ·exact hb.lt
 exact ho.lt e
theorem Cz.fresh {w:World} {g:Nat} {A:Option Addr} {xs:List UInt8} (h:Cz w g A xs) {z:Nat} (hz:w.heap.size≤z) (vs:List Value):Dx (Wf g A) (some (⟨z,0,none⟩:Addr)) vs:=by
 intro _ ad e hW;injection e with e
 subst e;have:=h.old _ hW;simp at this;omega
theorem Cz.chg {S:Nat→Prop} {w w':World} {g:Nat} {A:Option Addr} {xs:List UInt8} (h:Cz w g A xs) (hc:Au S w w') (hS: ∀k,Wf g A k→¬S k):Cz w' g A xs:=by
 obtain⟨⟨n,c,hn,hb,ho⟩,hf⟩:=h;exact⟨⟨n,c,hn,hb.chg hc (hS g (.inl rfl)),ho.chg hc (fun ad e=>hS _ (.inr ⟨ad,e,rfl⟩))⟩,hf⟩
theorem RF {w wx w2:World} {g:Nat} {A A':Option Addr} {L L' c c':Nat} {zs:List UInt8} (hblk:AT w g 195 #[.slice A L c]) (hfar: ∀ad,A=some ad→ad.block≠g)
    (h0:Au Ab w wx) (hchg:Au (fun k=>∃ad,A=some ad∧ad.block=k) wx w2) (hown:Cm w2 5 1 A' L' c' (bs zs)) (hL:L'=zs.length)
    (hA:A'=A∨∃z,A'=some ⟨z,0,none⟩∧w.heap.size≤z):
    Cz (w2.setCell ⟨g,0,none⟩ (.slice A' L' c')) g A' zs∧Au (Wf g A) w (w2.setCell ⟨g,0,none⟩ (.slice A' L' c'))∧Cb w A A':=by
 have hg:=hblk.lt;have hfar': ∀ad,A'=some ad→ad.block≠g:=by
  rintro ad rfl;rcases hA with rfl|hA
  ·exact hfar ad rfl
  obtain⟨z,hA,hz⟩:=hA;injection hA with hA
  subst hA;show z≠g;omega
 have hb2:AT w2 g 195 #[.slice A L c]:=(hblk.chg h0 (fun h=>h)).chg hchg (fun⟨ad,e,h⟩=>hfar ad e h);refine⟨⟨⟨L',c',hL,hb2.set_ 0 _,hown.far hfar' _⟩,hfar'⟩, ?_, ?_⟩
 ·refine((h0.mono (fun _ _ h=>h.elim)).trans hchg (fun x _ h=> .inr h)).setCell (fun _=> .inl rfl) _
 rcases hA with rfl|⟨z,rfl,hz⟩
 ·exact .inl rfl
 exact .inr ⟨_,rfl,hz⟩
theorem QD (m:Nat):Value.int .u8 (bits .or .u8 ((m:Int)%256) 128)=GV (UInt8.ofNat (m%128+128)):=by
 have h1:((m:Int)%256)=((m%256:Nat):Int):=by omega
 have h2:((128:Int))=((128:Nat):Int):=rfl;have h3:m%256|||128=m%128+128:=by
  have h4:m%256=128*(m/128%2)+m%128:=by omega
  rcases Nat.mod_two_eq_zero_or_one (m/128) with h5|h5
  ·rw[h5] at h4;rw[h4,Nat.or_comm];have:=nat_join 7 128 (128*0+m%128) (by decide) (by omega);omega
  rw[h5] at h4;rw[h4,Nat.or_comm];have h6:=nat_join 7 128 (m%128) (by decide) (by omega);rw[show 128*1+m%128=128|||m%128 by omega,←Nat.or_assoc,show 128|||128=128 from rfl,h6];omega
 rw[h1,h2,u8_or_nat _ _ (by omega) (by omega),h3];simp[GV];omega
theorem Aan (m:Nat) (h:m<128):Value.int .u8 (m:Int)=GV (UInt8.ofNat m):=by
 simp[GV];omega
theorem Yy (g:Nat) (A:Option Addr) (xs:List UInt8) (n:Nat) (w:World) (hw:Cz w g A xs) (hn:n≤4611686018427387904) (hx:xs.length≤1000000000000):
    Calls Tryz.prog 214 #[.pointer (some ⟨g,0,none⟩), .int .i64 n] w fun e w'=>e= .returned (.tuple #[])∧∃A',Cz w' g A' (xs++enc n)∧
     Au (Wf g A) w w'∧Cb w A A':=by
 have hlen:=IE n hn;have HX:=Lib.hid hx;have HN:=Lib.hid hn;have hn9:n≤9223372036854775807:=by omega
 clear hx hn;go_enter Tryz.func214,Tryz.ntmps214
 go_wp2
 go_loopw [1] (fun t wr=>∃(m:Nat) (A1:Option Addr) (pre:List UInt8),m≤n∧t= .int .i64 m∧Cz wr g A1 (xs++pre)∧pre++enc m=enc n∧
     Au (Wf g A) w wr∧Cb w A A1) (fun t _=>(intOf t).toNat)
 case atStart=>exact⟨n,A,[],Nat.le_refl _,rfl,by simpa using hw,rfl,Au.refl _ _, .inl rfl⟩
 case round=>
  obtain⟨m,A1,pre,hm,rfl,⟨⟨L,c,hL,hblk,hown⟩,hfar⟩,henc,hchg,hA⟩:=hrel;have hc0:wr.cell? ⟨g,0,none⟩=some (.slice A1 L c):=hblk.cell 0;have hf0:wr.frozen? ⟨g,0,none⟩=false:=hblk.frozen 0;have hm9:m≤9223372036854775807:=by omega
  have hpre:pre.length≤9:=by have:=congrArg List.length henc;simp at this;omega
  have HLB:Hid (L≤1000000000009):=Lib.hid (by have:=HX.out;simp at hL;omega);have HBLK:=Lib.hid hblk;have HOWN:=Lib.hid hown;have HFAR:=Lib.hid hfar;have HENC:=Lib.hid henc;have HCHG:=Lib.hid hchg;have HA:=Lib.hid hA;have HL:=Lib.hid hL;clear hblk hown hfar henc hchg hA hL;have HB:Hid (L+1≤SY):=ED (by have:=HLB.out;omega);by_cases hlt:m<128
  ·have e1:(m:Int)<128:=by omega
   go_wp2_with (at_builtin;refine Cf rfl (.tmp 24) (.tmp 27) Gk rfl (Nat.le_refl _) rfl (HOWN.out.alloc _) rfl (Rd.lit _ [_] _) rfl HB ?_);intro A2 c2 w2 hown2 hchg2 hA2;rw[Aan m hlt,show bs (xs++pre)++[GV (UInt8.ofNat m)]=bs ((xs++pre)++[UInt8.ofNat m]) by simp[bs]] at hown2;have hb2:=(HBLK.out.alloc _).chg hchg2 (fun⟨ad,e,h⟩=>HFAR.out ad e h);have hc2:w2.cell? ⟨g,0,none⟩=some (.slice A1 L c):=hb2.cell 0;have hf2:w2.frozen? ⟨g,0,none⟩=false:=hb2.frozen 0;have HP:=Lib.hid (RF HBLK.out HFAR.out ((Au.refl Ab wr).alloc _) hchg2 hown2 (by have:=HL.out;simp at this⊢;omega) (hA2.imp id fun h=>⟨_,h,by omega⟩));clear hown2 hchg2 hA2 hb2
   go_wp2
   go_end0
   obtain⟨h1,h2,h3⟩:=HP.out;obtain⟨h4,h5⟩:=En HCHG.out HA.out h2 h3;have:=HENC.out;rw[Fa hlt] at this;exact⟨rfl,A2,by rw[←this,←List.append_assoc];exact h1,h4,h5⟩
  have e1:128≤(m:Int):=by omega
  go_wp2_with (at_builtin;refine Cf rfl (.tmp 12) (.tmp 16) Gk rfl (Nat.le_refl _) rfl (HOWN.out.alloc _) rfl (Rd.lit _ [_] _) rfl HB ?_);intro A2 c2 w2 hown2 hchg2 hA2;rw[QD m,show bs (xs++pre)++[GV (UInt8.ofNat (m%128+128))]=bs (xs++(pre++[UInt8.ofNat (m%128+128)])) by simp[bs]] at hown2;have hb2:=(HBLK.out.alloc _).chg hchg2 (fun⟨ad,e,h⟩=>HFAR.out ad e h);have hc2:w2.cell? ⟨g,0,none⟩=some (.slice A1 L c):=hb2.cell 0;have hf2:w2.frozen? ⟨g,0,none⟩=false:=hb2.frozen 0;have HP:=Lib.hid (RF HBLK.out HFAR.out ((Au.refl Ab wr).alloc _) hchg2 hown2 (by have:=HL.out;simp at this⊢;omega) (hA2.imp id fun h=>⟨_,h,by omega⟩));clear hown2 hchg2 hA2 hb2
  go_wp2
  obtain⟨h1,h2,h3⟩:=HP.out;obtain⟨h4,h5⟩:=En HCHG.out HA.out h2 h3;have:=HENC.out;rw[GB hlt] at this;exact⟨⟨m/128,A2,pre++[UInt8.ofNat (m%128+128)],by omega,by go_num,h1,by rw[←this,List.append_assoc];rfl,h4,h5⟩,by simp[intOf];omega⟩
theorem Ae1 (g:Nat) (A:Option Addr) (xs:List UInt8) (v:Int) (w:World) (hw:Cz w g A xs) (h0:0≤v) (hn:v≤4611686018427387904) (hx:Hid (xs.length≤1000000000000)):
    Calls Tryz.prog 214 #[.pointer (some ⟨g,0,none⟩), .int .i64 v] w fun e w'=>e= .returned (.tuple #[])∧∃A',Hid (Cz w' g A' (xs++enc v.toNat))∧
     Hid (Au (Wf g A) w w')∧Hid (Cb w A A'):=by
 obtain⟨n,rfl⟩:=Int.eq_ofNat_of_zero_le h0;exact Yy g A xs n w hw (by omega) hx.out
def Oo (vs:List Int):List Value:=vs.map (.int .i64)
theorem Oq (g:Nat) (A:Option Addr) (xs:List UInt8) (A2:Option Addr) (n c2:Nat) (vs:List Int) (w:World) (hw:Cz w g A xs) (hr:Rd w A2 (Oo vs)) (hn:vs.length=n)
    (hA2:Dx (Wf g A) A2 (Oo vs)) (hx:xs.length+9*vs.length≤1000000000000):
    Calls Tryz.prog 176 #[.pointer (some ⟨g,0,none⟩), .slice A2 n c2] w fun e w'=>e= .returned (.tuple #[])∧∃A',Cz w' g A' (xs++Ae vs)∧
     Au (Wf g A) w w'∧Cb w A A':=by
 have HX:=Lib.hid hx;have HN:=Lib.hid hn;have HR:=Lib.hid hr;have HF:=Lib.hid hA2;have hn9:n≤9223372036854775807:=by omega
 clear hx hn hr hA2;go_enter Tryz.func176,Tryz.ntmps176
 go_wp2
 go_loopw [10] (fun t wr=>∃(k:Nat) (A1:Option Addr),k≤n∧t= .int .i64 k∧Cz wr g A1 (xs++Ae (vs.take k))∧
     Au (Wf g A) w wr∧Cb w A A1) (fun t _=>n -(intOf t).toNat)
 case atStart=>exact⟨0,A,Nat.zero_le _,rfl,by simpa[Ae] using hw,Au.refl _ _, .inl rfl⟩
 case round=>
  obtain⟨k,A1,hk,rfl,hw1,hchg,hA⟩:=hrel;have HW1:=Lib.hid hw1;have HCHG:=Lib.hid hchg;have HA:=Lib.hid hA;clear hw1 hchg hA;by_cases hlt:k<n
  ·have e1:(k:Int)<n:=by omega
   have hkv:k<vs.length:=by have:=HN.out;omega
   obtain⟨ad,rfl,hc⟩:=(HR.out.chg HCHG.out HF.out) k (.int .i64 vs[k]) (by simp[Oo,hkv]);have hsn:=Nd (vs.take k) vs[k];rw[List.take_append_getElem hkv] at hsn;have HB:Hid ((xs++Ae (vs.take k)).length ≤1000000000000):=Lib.hid (by have h1:=Az (vs.take k);have h2:=HX.out;rw[List.length_take] at h1;rw[List.length_append];omega);generalize vs[k]=v at hc hsn;have HSN:=Lib.hid hsn;clear hkv hsn;have hcl:(v<0∧CB v=(0:Int).toNat)∨((0≤v∧v≤4611686018427387904)∧CB v=v.toNat)∨(4611686018427387904<v∧CB v=(4611686018427387904:Int).toNat):=by
    unfold CB;omega
   rcases hcl with⟨hv,hcl⟩|⟨⟨hv,hv2⟩,hcl⟩|⟨hv,hcl⟩
   all_goals
    have HCL:=Lib.hid hcl;clear hcl;go_wp2_with fail;refine(Ae1 g A1 _ _ _ HW1.out (by omega) (by omega) HB).mono ?_;rintro e w1 ⟨rfl,A3,h1,h2,h3⟩
    go_wp2
    obtain⟨h4,h5⟩:=En HCHG.out HA.out h2.out h3.out;refine⟨⟨k+1,A3,by omega,by go_num, ?_,h4,h5⟩,by simp[intOf];omega⟩;rw[HSN.out,HCL.out,←List.append_assoc];exact h1.out
  have e1:(n:Int)≤k:=by omega
  go_wp2
  go_end0
  refine⟨rfl,A1, ?_,HCHG.out,HA.out⟩;have:=HW1.out;rwa[List.take_of_length_le (by have:=HN.out;omega)] at this
theorem Ot (g:Nat) (A:Option Addr) (xs:List UInt8) (A2:Option Addr) (n c2:Nat) (ys:List UInt8) (w:World) (hw:Cz w g A xs) (hr:Rd w A2 (bs ys)) (hn:ys.length=n)
    (hx:xs.length+ys.length≤10000000000000):
    Calls Tryz.prog 197 #[.pointer (some ⟨g,0,none⟩), .slice A2 n c2] w fun e w'=>e= .returned (.tuple #[])∧∃A',Hid (Cz w' g A' (xs++ys))∧
     Hid (Au (Wf g A) w w')∧Hid (Cb w A A'):=by
 obtain⟨⟨L,c,hL,hblk,hown⟩,hfar⟩:=hw;have hc0:w.cell? ⟨g,0,none⟩=some (.slice A L c):=hblk.cell 0;have hf0:w.frozen? ⟨g,0,none⟩=false:=hblk.frozen 0;have HBLK:=Lib.hid hblk;have HOWN:=Lib.hid hown;have HFAR:=Lib.hid hfar;have HL:=Lib.hid hL;have HN:=Lib.hid hn;have HR:=Lib.hid hr;have HB:Hid (L+n≤SY):=ED (by omega);have HM:Hid ((bs ys).length =n):=Lib.hid (by rw[Am];exact hn);clear hblk hown hfar hL hn hr hx;go_enter Tryz.func197,Tryz.ntmps197;go_wp2_with (at_builtin;refine Bw rfl (.tmp 10) (.tmp 11) Gk rfl (Nat.le_refl _) rfl HOWN.out rfl HR.out HM (Ei ys) HB ?_);intro A3 c3 w3 hown3 hchg3 hA3;rw[EW] at hown3;have hb3:=HBLK.out.chg hchg3 (fun⟨ad,e,h⟩=>HFAR.out ad e h);have hc3:w3.cell? ⟨g,0,none⟩=some (.slice A L c):=hb3.cell 0;have hf3:w3.frozen? ⟨g,0,none⟩=false:=hb3.frozen 0;have HP:=Lib.hid (RF HBLK.out HFAR.out (Au.refl Ab w) hchg3 hown3 (by have:=HL.out;have:=HN.out;simp;omega) (hA3.imp id fun h=>⟨_,h,Nat.le_refl _⟩));clear hown3 hchg3 hA3 hb3
 go_wp2
 go_end0
 obtain⟨h1,h2,h3⟩:=HP.out;exact⟨rfl,A3,h1,h2,h3⟩
theorem nilB (w:World) (a:Option Addr) (n c n' c':Nat):(binOp .eql 55 (.slice a n c) (.slice none n' c')).run Tryz.prog w= .ok (.bool a.isNone) w:=
 Lib.run_eql_slice_nil w 55 5 a n c n' c' Tryz.underlying55
attribute [local go_sem] nilB
theorem TN (A:Option Addr) (n c:Nat) (xs:List UInt8) (w:World) (hr:Rd w A (bs xs)) (hn:xs.length=n) (hx:n≤140737488351232):
    Calls Tryz.prog 177 #[.slice A n c] w fun e w'=>∃A' c',e= .returned (.slice A' n c')∧Hid (Cm w' 5 1 A' n c' (bs xs))∧
     Hid (Au Ab w w')∧Hid (∀ad,A'=some ad→w.heap.size≤ad.block):=by
 have HN:=Lib.hid hn;have HR:=Lib.hid hr;have HB:Hid (0+n≤SY):=ED (by omega);have HM:Hid ((bs xs).length =n):=Lib.hid (by rw[Am];exact hn);clear hr hx;rcases A with _|ad
 ·have h0:n=0:=by
    rcases xs with _|⟨x,xs⟩
    ·simpa using hn.symm
    obtain⟨ad,h,_⟩:=HR.out 0 (GV x) rfl;cases h
  subst h0;have hxs:xs=[]:=List.eq_nil_of_length_eq_zero hn;clear hn;go_enter Tryz.func177,Tryz.ntmps177
  go_wp2
  go_ret;refine⟨none,0,rfl, ?_,Au.refl _ _,fun ad h=>by cases h⟩;rw[hxs];exact Cm.nil _ _ _
 clear hn;go_enter Tryz.func177,Tryz.ntmps177;go_wp2_with (at_builtin;refine Bw rfl (.tmp 5) (.tmp 6) Gk rfl (Nat.le_refl _) rfl (Ol _) rfl (HR.out.alloc _) HM (Ei xs) HB ?_);intro A3 c3 w3 hown3 hchg3 hA3;have HO:=Lib.hid hown3;have HC:Hid (Au Ab w w3):=Lib.hid (((Au.refl Ab w).alloc (.cells #[] 5)).trans hchg3 (fun x hx hT=>by
  first|omega|(simp at hT;omega)|(obtain⟨ad,e,h⟩:=hT;injection e with e;subst e;simp at h;omega)))
 have HA:Hid (∀ad,A3=some ad→w.heap.size≤ad.block):=Lib.hid (by
  rintro ad rfl;rcases hA3 with h|h<;>injection h with h<;>subst h<;>simp)
 clear hown3 hchg3 hA3
 go_wp2
 go_ret;exact⟨A3,c3,rfl,HO.out,HC,HA⟩
theorem JS (g:Nat) (A:Option Addr) (xs:List UInt8) (w:World) (hw:Cz w g A xs) (hx:xs.length≤10000000000000):
    Calls Tryz.prog 109 #[.pointer (some ⟨g,0,none⟩)] w fun e w'=>∃A' n c',e= .returned (.slice A' n c')∧Hid (n=xs.length)∧Hid (Cm w' 5 1 A' n c' (bs xs))∧
     Hid (Au Ab w w')∧Hid (∀ad,A'=some ad→w.heap.size≤ad.block):=by
 obtain⟨⟨L,c,hL,hblk,hown⟩,hfar⟩:=hw;have hc0:w.cell? ⟨g,0,none⟩=some (.slice A L c):=hblk.cell 0;have hrd:=hown.rd;have hx':L≤10000000000000:=by omega
 have HL:=Lib.hid hL;have HR:=Lib.hid hrd;have HX:=Lib.hid hx';clear hblk hown hfar hL hrd hx hx';go_enter Tryz.func109,Tryz.ntmps109;go_wp2_with fail;refine(TN A L c xs w HR.out HL.out.symm (Nat.le_trans HX.out (by decide))).mono ?_;rintro e w1 ⟨A1,c1,rfl,h1,h2,h3⟩
 go_wp2
 go_ret;exact⟨A1,L,c1,rfl,HL,h1,h2,h3⟩
def Fk (l:List La):List UInt8:=l.flatMap fun r=>Ap r.p
def BJ:List La→Nat
 |[]=>0
 |r::l=>r.p.length+10+BJ l
theorem RG (l:List La) (r:La):Fk (l++[r])=Fk l++Ap r.p:=by simp[Fk]
theorem Nu (l k:List La):BJ (l++k)=BJ l+BJ k:=by
 induction l with
 |nil=>simp[BJ]
 |cons r l ih=>simp[BJ,ih];omega
theorem Dr (p:List UInt8) (h:p.length≤4611686018427387904):(Ap p).length ≤p.length+9:=by
 have:=IE p.length h;simp[Ap];omega
theorem TO (l:List La) (h: ∀r∈l,r.p.length≤4611686018427387904):(Fk l).length ≤BJ l:=by
 induction l with
 |nil=>simp[Fk]
 |cons r l ih=>
  have h1:=Dr r.p (h r (by simp));have h2:=ih (fun r hr=>h r (by simp[hr]));simp[Fk,BJ] at*;omega
theorem RH (l:List La):l.length≤BJ l:=by
 induction l with
 |nil=>simp
 |cons r l ih=>simp[BJ];omega
theorem RI {l:List La} {r:La} (h:r∈l):r.p.length+10≤BJ l:=by
 induction l with
 |nil=>cases h
 |cons a m ih=>
  rcases List.mem_cons.1 h with rfl|h
  ·simp[BJ]
  have:=ih h;simp[BJ];omega
theorem Kq (l:List La) (k:Nat):BJ (l.take k)+BJ (l.drop k)=BJ l:=by
 rw[←Nu,List.take_append_drop]
end Go.Proofs.YtjjhceeookpieaaGreat
end
section
set_option maxRecDepth 100000
set_option maxHeartbeats 400000
open Go Go.RowKit
namespace Go.Proofs.YtjjhceeookpieaaGreat
theorem RJ (g:Nat) (A:Option Addr) (xs:List UInt8) (A2:Option Addr) (n c2:Nat) (l:List La) (w:World) (hw:Cz w g A xs) (hr:Rd w A2 (NQ l)) (hn:l.length=n)
    (hA2:Dx (Wf g A) A2 (NQ l)) (hrow: ∀r∈l,Rd w r.A (bs r.p)∧Dx (Wf g A) r.A (bs r.p)) (hx:xs.length+BJ l≤900000000000):
    Calls Tryz.prog 222 #[.pointer (some ⟨g,0,none⟩), .slice A2 n c2] w fun e w'=>e= .returned (.tuple #[])∧∃A',Hid (Cz w' g A' (xs++Fk l))∧
     Hid (Au (Wf g A) w w')∧Hid (Cb w A A'):=by
 have hsz:=RH l;have HX:=Lib.hid hx;have HN:=Lib.hid hn;have HR:=Lib.hid hr;have HF:=Lib.hid hA2;have HROW:=Lib.hid hrow;have hn9:n≤9223372036854775807:=by omega
 clear hx hn hr hA2 hrow hsz;go_enter Tryz.func222,Tryz.ntmps222
 go_wp2
 go_loopw [8] (fun t wr=>∃(k:Nat) (A1:Option Addr),k≤n∧t= .int .i64 k∧Cz wr g A1 (xs++Fk (l.take k))∧
     Au (Wf g A) w wr∧Cb w A A1) (fun t _=>n -(intOf t).toNat)
 case atStart=>exact⟨0,A,Nat.zero_le _,rfl,by simpa[Fk] using hw,Au.refl _ _, .inl rfl⟩
 case round=>
  obtain⟨k,A1,hk,rfl,hw1,hchg,hA⟩:=hrel;have HW1:=Lib.hid hw1;have HCHG:=Lib.hid hchg;have HA:=Lib.hid hA;clear hw1 hchg hA;by_cases hlt:k<n
  ·have e1:(k:Int)<n:=by omega
   have hkl:k<l.length:=by have:=HN.out;omega
   obtain⟨ad,rfl,hc⟩:=(HR.out.chg HCHG.out HF.out) k l[k].v (by simp[NQ,hkl]);have hsn:=RG (l.take k) l[k];rw[List.take_append_getElem hkl] at hsn;have hmem:l[k]∈l:=List.getElem_mem hkl;have hq:=HROW.out l[k] hmem;have hsize:BJ (l.take k)+(l[k].p.length +10)≤BJ l:=by
    have h1:=Kq l k;rw[List.drop_eq_getElem_cons hkl] at h1;simp only[BJ] at h1;omega
   have hlen:=TO (l.take k) (fun r hr=>by
    have h1:=Kq l k;have h2:=RI hr;have:=HX.out;omega)
   rcases hrk:l[k] with⟨RA,rc,p⟩
   rw[hrk] at hc hsn hq hsize;have HSN:=Lib.hid hsn;have HQ:=Lib.hid hq;have HS:=Lib.hid hsize;have HLEN:=Lib.hid hlen;clear hsn hq hsize hlen hmem hkl hrk;have hc':wr.cell? (ad.add k)=some (.slice RA p.length rc):=hc;clear hc;have hp9:p.length≤9223372036854775807:=by have:=HS.out;have:=HX.out;simp at*;omega
   go_wp2_with fail;refine(Oq g A1 _ _ _ _ [(p.length:Int)] _ (HW1.out.chg (S:=Ab) ((Au.refl _ _).alloc _) (fun _ _ h=>h)) (Rd.lit _ [_] _) rfl ?_ ?_).mono ?_
   ·exact HW1.out.fresh (Nat.le_refl _) _
   ·have h1:=HLEN.out;have h2:=HS.out;have h3:=HX.out;simp at h1 h2 h3⊢;omega
   rintro e w1 ⟨rfl,A3,h1,h2,h3⟩;obtain⟨h4,h5⟩:=En (HCHG.out.alloc _) HA.out h2 h3;have H1:=Lib.hid h1;have H4:=Lib.hid h4;have H5:=Lib.hid h5;clear h1 h2 h3 h4 h5;go_wp2_with fail;refine(Ot g A3 _ _ _ _ p _ H1.out (HQ.out.1.chg H4.out HQ.out.2) rfl ?_).mono ?_
   ·have h1:=HLEN.out;have h2:=HS.out;have h3:=HX.out;have h4:=Az [(p.length:Int)];simp at h1 h2 h3 h4⊢;omega
   rintro e w2 ⟨rfl,A4,h1,h2,h3⟩
   go_wp2
   obtain⟨h4,h5⟩:=En H4.out H5.out h2.out h3.out;refine⟨⟨k+1,A4,by omega,by go_num, ?_,h4,h5⟩,by simp[intOf];omega⟩;have h6:=h1.out;rw[HSN.out];have h7:Ae [(p.length:Int)]=enc p.length:=by
    rw[Bk,KK _ (by have h2:=HS.out;have h3:=HX.out;omega)]
   rw[h7] at h6;simpa[Ap] using h6
  have e1:(n:Int)≤k:=by omega
  go_wp2
  go_end0
  refine⟨rfl,A1, ?_,HCHG.out,HA.out⟩;have:=HW1.out;rwa[List.take_of_length_le (by have:=HN.out;omega)] at this
end Go.Proofs.YtjjhceeookpieaaGreat
end
section
set_option maxRecDepth 100000
set_option maxHeartbeats 400000
open Go Go.RowKit
namespace Go.Proofs.YtjjhceeookpieaaGreat
theorem VL (m:Nat):Value.int .u8 (bits .or .u8 ((m:Int)%128) 128)=GV (UInt8.ofNat (m%128+128)):=by
 have h:=QD (m%128);rw[show(((m%128:Nat):Int)%256)=(m:Int)%128 by omega,Nat.mod_mod] at h;exact h
theorem VM (m:Nat) (h:m<18446744073709551616):bits .and .u64 (m:Int) 127=((m%128:Nat):Int):=by
 rw[show(127:Int)=((127:Nat):Int) from rfl,u64_and_nat m 127 h (by decide),nat_mask7]
theorem CQ (v:Int) (w:World):
    Calls Tryz.prog 161 #[.int .i64 v] w fun e w'=>∃A n c,e= .returned (.slice A n c)∧Hid (Co w w' A n c (enc (CB v))):=by
 have hle:=Mm v;have HLEN:=Lib.hid (IE (CB v) hle);have hcl:(v≤0∧CB v=0)∨((0<v∧v≤4611686018427387904)∧(CB v:Int)=v)∨(4611686018427387904<v∧CB v=4611686018427387904):=by
  unfold CB;omega
 obtain⟨N,hN⟩: ∃N,N=CB v:=⟨_,rfl⟩;rw[←hN] at hcl hle HLEN⊢;have hN9:N≤9223372036854775807:=by omega
 clear hN hle;rcases hcl with⟨hv,hcl⟩|⟨⟨hv,hv2⟩,hcl⟩|⟨hv,hcl⟩
 all_goals
  have HCL:=Lib.hid hcl;clear hcl;go_enter Tryz.func161,Tryz.ntmps161;go_wp2_with fail;go_loopw [3,4] (fun t u wr=>∃(m:Nat) (A1:Option Addr) (n1 c1:Nat) (pre:List UInt8),m≤N∧t= .int .u64 m∧u= .slice A1 n1 c1∧Co w wr A1 n1 c1 pre∧pre++enc m=enc N) (fun t _ _=>(intOf t).toNat)
  case atStart=>exact⟨N,none,0,0,[],Nat.le_refl _,by have:=HCL.out;first|(rw[this];rfl)|(rw[this];go_num)|(rw[←this]),rfl,Co.nil _,rfl⟩
  case round=>
   obtain⟨m,A1,n1,c1,pre,hm,rfl,rfl,hfr,henc⟩:=hrel;have hpre:pre.length≤9:=by have h1:=congrArg List.length henc;have h2:=HLEN.out;simp at h1;omega
   have hm64:m<18446744073709551616:=by omega
   have HF:=Lib.hid hfr;have HENC:=Lib.hid henc;have HB:Hid (n1+1≤SY):=ED (by rw[hfr.len];omega);have q1:=VM m hm64;clear hfr henc hm64;by_cases hlt:m<128
   ·have e1:(m:Int)<128:=by omega
    go_wp2_with (at_builtin;refine Cf rfl (.tmp 22) (.tmp 25) Gk rfl (Nat.le_refl _) rfl (HF.out.own.alloc _) rfl (Rd.lit _ [_] _) rfl HB ?_);intro A2 c2 w2 hown2 hchg2 hA2;rw[Aan m hlt,show bs pre++[GV (UInt8.ofNat m)]=bs (pre++[UInt8.ofNat m]) by simp[bs]] at hown2;have HP:=Lib.hid (HF.out.push ((Au.refl Ab wr).alloc _) hchg2 hown2 (by rw[HF.out.len];simp) (hA2.imp id fun h=>⟨_,h,by omega⟩));clear hown2 hchg2 hA2;go_wp2_with fail;go_ret;refine⟨A2,n1+1,c2,rfl, ?_⟩;have:=HENC.out;rw[Fa hlt] at this;rw[←this];exact HP.out
   have e1:128≤(m:Int):=by omega
   go_wp2_with (at_builtin;refine Cf rfl (.tmp 13) (.tmp 18) Gk rfl (Nat.le_refl _) rfl (HF.out.own.alloc _) rfl (Rd.lit _ [_] _) rfl HB ?_);intro A2 c2 w2 hown2 hchg2 hA2;rw[VL m,show bs pre++[GV (UInt8.ofNat (m%128+128))]=bs (pre++[UInt8.ofNat (m%128+128)]) by simp[bs]] at hown2;have HP:=Lib.hid (HF.out.push ((Au.refl Ab wr).alloc _) hchg2 hown2 (by rw[HF.out.len];simp) (hA2.imp id fun h=>⟨_,h,by omega⟩));clear hown2 hchg2 hA2;go_wp2_with fail;have:=HENC.out;rw[GB hlt] at this;exact⟨⟨m/128,A2,n1+1,c2,pre++[UInt8.ofNat (m%128+128)],by omega,by go_num,rfl,HP.out,by rw[←this,List.append_assoc];rfl⟩,by simp[intOf];omega⟩
end Go.Proofs.YtjjhceeookpieaaGreat
end
section
set_option maxRecDepth 100000
set_option maxHeartbeats 400000
open Go Go.RowKit
namespace Go.Proofs.YtjjhceeookpieaaGreat
theorem FJ (A:Option Addr) (n c:Nat) (vs:List Int) (w:World) (hr:Rd w A (Oo vs)) (hn:vs.length=n) (hx:n≤1000000000):
    Calls Tryz.prog 92 #[.slice A n c] w fun e w'=>∃A' n' c',e= .returned (.slice A' n' c')∧Hid (Co w w' A' n' c' (Ae vs)):=by
 have HR:=Lib.hid hr;have HN:=Lib.hid hn;have hn9:n≤9223372036854775807:=by omega
 have HX:=Lib.hid hx;clear hr hn hx;go_enter Tryz.func92,Tryz.ntmps92;go_wp2_with fail;go_loopw [3,4] (fun u t wr=>∃(k:Nat) (A1:Option Addr) (n1 c1:Nat),k≤n∧t= .int .i64 k∧u= .slice A1 n1 c1∧Co w wr A1 n1 c1 (Ae (vs.take k))) (fun _ t _=>n -(intOf t).toNat)
 case atStart=>exact⟨0,none,0,0,Nat.zero_le _,rfl,rfl,Co.nil _⟩
 case round=>
  obtain⟨k,A1,n1,c1,hk,rfl,rfl,hfr⟩:=hrel;have HF:=Lib.hid hfr;clear hfr;by_cases hlt:k<n
  ·have e1:(k:Int)<n:=by omega
   have hkv:k<vs.length:=by have:=HN.out;omega
   obtain⟨ad,rfl,hc⟩:=(HR.out.later HF.out.chg) k (.int .i64 vs[k]) (by simp[Oo,hkv]);have hsn:=Nd (vs.take k) vs[k];rw[List.take_append_getElem hkv] at hsn;have hl1:=Az (vs.take k);rw[List.length_take] at hl1;generalize vs[k]=v at hc hsn;have HSN:=Lib.hid hsn;have HL1:=Lib.hid hl1;clear hkv hsn hl1;go_wp2_with fail;refine(CQ v _).mono ?_;rintro e w1 ⟨A2,n2,c2,rfl,h2⟩;have HM:Hid ((bs (enc (CB v))).length =n2):=Lib.hid (by rw[Am];exact h2.out.len.symm);have HB:Hid (n1+n2≤SY):=ED (by
    have h3:=HF.out.len;have h4:=h2.out.len;have h5:=HL1.out;have h6:=IE _ (Mm v);have h7:=HX.out;omega)
   have HO:Hid (Cm w1 5 1 A1 n1 c1 (bs (Ae (vs.take k)))):=Lib.hid (HF.out.own.chg h2.out.chg (fun _ _ h=>h));go_wp2_with (at_builtin;refine Bw rfl (.tmp 11) (.tmp 16) Gk rfl (Nat.le_refl _) rfl HO.out rfl h2.out.rd HM (Ei _) HB ?_);intro A3 c3 w3 hown3 hchg3 hA3;rw[EW] at hown3;have HP:=Lib.hid (HF.out.push h2.out.chg hchg3 hown3 (by rw[HF.out.len,h2.out.len];simp) (hA3.imp id fun h=>⟨_,h,h2.out.chg.size⟩));clear hown3 hchg3 hA3;go_wp2_with fail;exact⟨⟨k+1,A3,n1+n2,c3,by omega,by go_num,rfl,by rw[HSN.out];exact HP.out⟩,by simp[intOf];omega⟩
  have e1:(n:Int)≤k:=by omega
  go_wp2_with fail;go_ret;refine⟨A1,n1,c1,rfl, ?_⟩;have:=HF.out;rwa[List.take_of_length_le (by have:=HN.out;omega)] at this
end Go.Proofs.YtjjhceeookpieaaGreat
end
section
set_option maxRecDepth 100000
set_option maxHeartbeats 400000
open Go Go.RowKit
namespace Go.Proofs.YtjjhceeookpieaaGreat
theorem Om (A:Option Addr) (n c:Nat) (xs:List UInt8) (w:World) (hr:Rd w A (bs xs)) (hn:xs.length=n) (hx:n≤1000000000):
    Calls Tryz.prog 233 #[.slice A n c] w fun e w'=>∃A' n' c',e= .returned (.slice A' n' c')∧Hid (Co w w' A' n' c' (Ap xs)):=by
 have HR:=Lib.hid hr;have HN:=Lib.hid hn;have hn9:n≤9223372036854775807:=by omega
 have HX:=Lib.hid hx;have HM:Hid ((bs xs).length =n):=Lib.hid (by rw[Am];exact hn);clear hr hn hx;go_enter Tryz.func233,Tryz.ntmps233;go_wp2_with fail;refine(CQ (n:Int) _).mono ?_;rintro e w1 ⟨A2,n2,c2,rfl,h2⟩;have hcl:CB (n:Int)=xs.length:=by rw[HN.out];exact KK n (by have:=HX.out;omega)
 rw[hcl] at h2;have HB:Hid (n2+n≤SY):=ED (by
  have h4:=h2.out.len;have h6:=IE xs.length (by rw[HN.out];have:=HX.out;omega);have h7:=HX.out;omega)
 clear hcl;go_wp2_with (at_builtin;refine Bw rfl (.tmp 5) (.tmp 6) Gk rfl (Nat.le_refl _) rfl h2.out.own rfl (HR.out.later h2.out.chg) HM (Ei _) HB ?_);intro A3 c3 w3 hown3 hchg3 hA3;rw[EW] at hown3;have HP:=Lib.hid (h2.out.push (Au.refl Ab _) hchg3 hown3 (by rw[h2.out.len,←HN.out];simp) (hA3.imp id fun h=>⟨_,h,Nat.le_refl _⟩));clear hown3 hchg3 hA3;go_wp2_with fail;go_ret;exact⟨A3,n2+n,c3,rfl,HP⟩
end Go.Proofs.YtjjhceeookpieaaGreat
end
section
open Go Go.RowKit
namespace Go.Proofs.YtjjhceeookpieaaGreat
structure RS where
 b:List UInt8
 e:Bool
def RS.bad:RS:=⟨[],true⟩
def RS.ok (s:RS):Prop:=s.e=true→s.b=[]
def DG (i acc:Nat):List UInt8→Option (Nat×List UInt8)
 |[]=>none
 |c::r=>
  if 9≤i then none
  else if 128≤c.toNat then DG (i+1) (acc+c.toNat%128*128^i) r
  else if 4611686018427387904<acc+c.toNat%128*128^i∨(c.toNat=0∧0<i) then none
  else some (acc+c.toNat%128*128^i,r)
def RS.num (s:RS):Nat×RS:=if s.e then(0,s) else match DG 0 0 s.b with
 |some (n,r)=>(n,⟨r,false⟩)
 |none=>(0,RS.bad)
def RS.raw (s:RS) (n:Int):List UInt8×RS:=if s.e∨n<0∨(s.b.length:Int)<n then([],RS.bad) else(s.b.take n.toNat,⟨s.b.drop n.toNat,false⟩)
def RS.row (s:RS):List UInt8×RS:=s.num.2.raw s.num.1
theorem RS.ok_bad:RS.bad.ok:=fun _=>rfl
theorem RS.eta_bad {s:RS} (h:s.ok) (he:s.e=true):s=RS.bad:=by
 rcases s with⟨b,e⟩
 obtain rfl:e=true:=he;rw[show b=[] from h rfl];rfl
end Go.Proofs.YtjjhceeookpieaaGreat
end
section
open Go Go.RowKit
namespace Go.Proofs.YtjjhceeookpieaaGreat
theorem OC {k acc:Nat} {b:UInt8} {r:List UInt8} (hk:k<9) (h:128≤b.toNat):DG k acc (b::r)=DG (k+1) (acc+b.toNat%128*128^k) r:=by
 rw[DG,if_neg (by omega),if_pos h]
theorem QL {k acc:Nat} {b:UInt8} {r:List UInt8} (hk:k<9) (h:b.toNat<128) (h2:4611686018427387904<acc+b.toNat%128*128^k∨(b.toNat=0∧0<k)):DG k acc (b::r)=none:=by
 rw[DG,if_neg (by omega),if_neg (by omega),if_pos h2]
theorem QM {k acc:Nat} {b:UInt8} {r:List UInt8} (hk:k<9) (h:b.toNat<128) (h2:acc+b.toNat%128*128^k≤4611686018427387904) (h3: ¬(b.toNat=0∧0<k)):DG k acc (b::r)=some (acc+b.toNat%128*128^k,r):=by
 rw[DG,if_neg (by omega),if_neg (by omega),if_neg (by omega)]
theorem VU {k acc:Nat} {r:List UInt8} (hk:9≤k):DG k acc r=none:=by
 rcases r with _|⟨b,r⟩
 ·rw[DG]
 rw[DG,if_pos hk]
end Go.Proofs.YtjjhceeookpieaaGreat
end
section
open Go Go.RowKit
namespace Go.Proofs.YtjjhceeookpieaaGreat
theorem RS.num_le (s:RS):s.num.2.b.length≤s.b.length:=by
 have key: ∀(l:List UInt8) i acc n r,DG i acc l=some (n,r)→r.length≤l.length:=by
  intro l
  induction l with
  |nil=>intro i acc n r h;rw[DG] at h;cases h
  |cons b l ih=>
   intro i acc n r h;rw[DG] at h;split at h
   ·cases h
   split at h
   ·have:=ih _ _ _ _ h;simp;omega
   split at h
   ·cases h
   injection h with h;injection h with h1 h2;subst h2;simp
 unfold RS.num;split
 ·exact Nat.le_refl _
 split
 ·rename_i n r h
  exact key _ _ _ _ _ h
 simp[RS.bad]
theorem YO (n:Nat): ∀(i acc:Nat) (rest:List UInt8),(enc n).length +i≤9→(0<n∨i=0)→acc+n*128^i≤4611686018427387904→DG i acc (enc n++rest)=some (acc+n*128^i,rest):=by
 induction n using Nat.strongRecOn with
 |_ n ih=>
  intro i acc rest hlen h0 hle;by_cases h:n<128
  ·rw[Fa h] at hlen⊢;have hb:(UInt8.ofNat n).toNat =n:=by simp;omega
   have hm:n%128=n:=Nat.mod_eq_of_lt h;show DG i acc (UInt8.ofNat n::rest)=_;rw[QM (by simp at hlen;omega) (by omega) (by rw[hb,hm];exact hle) (by rw[hb];omega),hb,hm]
  rw[GB h] at hlen⊢;have hb:(UInt8.ofNat (n%128+128)).toNat =n%128+128:=by simp;omega
  have hm:(n%128+128)%128=n%128:=by omega
  have hp:=Ae0 (n/128);show DG i acc (UInt8.ofNat (n%128+128)::(enc (n/128)++rest))=_;rw[OC (by simp at hlen;omega) (by omega),hb,hm];have e:acc+n%128*128^i+n/128*128^(i+1)=acc+n*128^i:=by
   rw[Nat.pow_succ];have h1:n=n%128+n/128*128:=by omega
   have h2:n*128^i=(n%128+n/128*128)*128^i:=by rw[←h1]
   rw[h2,Nat.add_mul,Nat.mul_assoc,Nat.mul_comm 128 (128^i)];omega
  rw[ih (n/128) (by omega) (i+1) _ rest (by simp at hlen;omega) (.inl (by omega)) (by rw[e];exact hle),e]
theorem Xc (n:Nat) (rest:List UInt8) (h:n≤4611686018427387904):RS.num ⟨enc n++rest,false⟩=(n,⟨rest,false⟩):=by
 unfold RS.num;rw[if_neg (by simp)];show(match DG 0 0 (enc n++rest) with|some (n,r)=>(n,(⟨r,false⟩:RS))|none=>(0,RS.bad))=_;rw[YO n 0 0 rest (by have:=IE n h;omega) (.inr rfl) (by simpa using h)];simp
end Go.Proofs.YtjjhceeookpieaaGreat
end
section
open Go Go.RowKit
namespace Go.Proofs.YtjjhceeookpieaaGreat
def RS.at (s:RS):Nat→RS
 |0=>s
 |k+1=>(s.at k).num.2
theorem RS.at_le (s:RS) (k:Nat):(s.at k).b.length ≤s.b.length:=by
 induction k with
 |zero=>exact Nat.le_refl _
 |succ k ih=>exact Nat.le_trans (RS.num_le _) ih
theorem RS.at_ne {s:RS} {k:Nat} (h:(s.at k).b ≠[]):s.b≠[]:=by
 intro h0;have h1:=s.at_le k;rw[h0] at h1;exact h (List.eq_nil_of_length_eq_zero (by simpa using h1))
def Ao3 (ps:List (Option Addr)):List Value:=ps.map .pointer
def Ag8 (z:Nat) (ps:List (Option Addr)) (s:RS):Nat→Array Value→Array Value
 |0,cs=>cs
 |k+1,cs=>match ps[k]? with
  |some (some ad)=>if ad.block=z then(Ag8 z ps s k cs).setIfInBounds ad.off (.int .i64 (s.at k).num.1) else Ag8 z ps s k cs
  |_=>Ag8 z ps s k cs
def Anc (g:Nat) (ps:List (Option Addr)):Nat→Prop:=fun x=>x=g∨∃ad,some ad∈ps∧ad.block=x
end Go.Proofs.YtjjhceeookpieaaGreat
end
section
open Go Go.RowKit
namespace Go.Proofs.YtjjhceeookpieaaGreat
end Go.Proofs.YtjjhceeookpieaaGreat
end
section
set_option maxRecDepth 100000
set_option maxHeartbeats 400000
open Go Go.RowKit
namespace Go.Proofs.YtjjhceeookpieaaGreat
structure Bn (w:World) (g d:Nat) (s:RS):Prop where
 ex: ∃A n c,n=s.b.length∧n≤c∧AT w g 241 #[.slice A n c, .bool s.e]∧Rd w A (bs s.b)∧∀ad,A=some ad→s.b≠[]→ad.block=d
 ne:d≠g
 ok:s.ok
theorem Bn.chg {S:Nat→Prop} {w w':World} {g d:Nat} {s:RS} (h:Bn w g d s) (hc:Au S w w') (hg: ¬S g) (hd: ¬S d):Bn w' g d s:=by
 obtain⟨⟨A,n,c,hn,hnc,hb,hr,hA⟩,hne,hok⟩:=h;refine⟨⟨A,n,c,hn,hnc,hb.chg hc hg,hr.chg hc (fun hv ad e hs=> ?_),hA⟩,hne,hok⟩;have:=hA ad e (by rintro h;rw[h] at hv;exact hv rfl);rw[this] at hs;exact hd hs
theorem Bn.chg2 {S:Nat→Prop} {w w':World} {g d:Nat} {s:RS} (h:Bn w g d s) (hc:Au S w w') (hg: ¬S g) (hd:s.b≠[]→¬S d):Bn w' g d s:=by
 obtain⟨⟨A,n,c,hn,hnc,hb,hr,hA⟩,hne,hok⟩:=h;refine⟨⟨A,n,c,hn,hnc,hb.chg hc hg,hr.chg hc (fun hv ad e hs=> ?_),hA⟩,hne,hok⟩;have hs0:s.b≠[]:=by rintro h;rw[h] at hv;exact hv rfl
 have:=hA ad e hs0;rw[this] at hs;exact hd hs0 hs
theorem Bn.dlt {w:World} {g d:Nat} {s:RS} (h:Bn w g d s) (hs:s.b≠[]):d<w.heap.size:=by
 obtain⟨⟨A,n,c,hn,hnc,hb,hr,hA⟩,hne,hok⟩:=h;obtain⟨ad,e,hl⟩:=hr.lt (by rw[Am];exact List.length_pos_iff.2 hs);rw[←hA ad e hs];exact hl
theorem Bn.lt {w:World} {g d:Nat} {s:RS} (h:Bn w g d s):g<w.heap.size:=by
 obtain⟨⟨_,_,_,_,_,hb,_⟩,_⟩:=h;exact hb.lt
theorem Ey (g d:Nat) (s:RS) (w:World) (h:Bn w g d s):Calls Tryz.prog 199 #[.pointer (some ⟨g,0,none⟩)] w fun e w'=>e= .returned (.tuple #[])∧Hid (Bn w' g d RS.bad)∧Hid (Au (fun k=>k=g) w w'):=by
 obtain⟨⟨A,n,c,hn,hnc,hb,_⟩,hne,_⟩:=h;have hc0:w.cell? ⟨g,0,none⟩=some (.slice A n c):=hb.cell 0;have hc1:w.cell? ⟨g,1,none⟩=some (.bool s.e):=hb.cell 1;have hf0:w.frozen? ⟨g,0,none⟩=false:=hb.frozen 0;have hf1:w.frozen? ⟨g,1,none⟩=false:=hb.frozen 1;have HP:Hid (Bn ((w.setCell ⟨g,1,none⟩ (.bool true)).setCell ⟨g,0,none⟩ (.slice none 0 0)) g d RS.bad):=Lib.hid ⟨⟨none,0,0,rfl,Nat.le_refl _,(hb.set_ 1 _).set_ 0 _,Rd.nil _ _,fun ad e=>by cases e⟩,hne,RS.ok_bad⟩;have HC:Hid (Au (fun k=>k=g) w ((w.setCell ⟨g,1,none⟩ (.bool true)).setCell ⟨g,0,none⟩ (.slice none 0 0))):=Lib.hid (((Au.refl (fun k=>k=g) w).setCell (p:=⟨g,1,none⟩) (fun _=>rfl) _).setCell (p:=⟨g,0,none⟩) (fun _=>rfl) _);clear hb hn hnc hne;go_enter Tryz.func199,Tryz.ntmps199
 go_wp2
 go_end0
 exact⟨rfl,HP,HC⟩
theorem Agk {w:World} {g d:Nat} {A A':Option Addr} {n c c' k:Nat} {b:List UInt8} (hb:AT w g 241 #[.slice A n c, .bool false]) (hr:Rd w A (bs b)) (hn:n=b.length) (hnc:n≤c) (hkn:k≤n)
    (hA: ∀ad,A=some ad→b≠[]→ad.block=d) (hne:d≠g) (h:(A'=A∧c=k∧c'=0)∨(A'=A.map (·.add k)∧c'=c -k)):
    Bn (w.setCell ⟨g,0,none⟩ (.slice A' (n -k) c')) g d ⟨b.drop k,false⟩:=by
 have hne':b.drop k≠[]→b≠[]:=by rintro h rfl;simp at h
 refine⟨⟨A',n -k,c', ?_, ?_,hb.set_ 0 _, ?_, ?_⟩,hne,fun h=>by cases h⟩
 ·simp;omega
 ·rcases h with⟨_,h1,h2⟩|⟨_,h1⟩<;>omega
 ·rcases h with⟨rfl,h1,h2⟩|⟨rfl,h1⟩
  ·rw[show b.drop k=[] from List.drop_eq_nil_of_le (by omega)];exact Rd.nil _ _
  have h2:Rd w (A.map (·.add k)) (bs (b.drop k)):=by
    have:=hr.drop k;rwa[show(bs b).drop k=bs (b.drop k) from List.map_drop.symm] at this
  rcases hbn:b.drop k with _|⟨x,l⟩
  ·exact Rd.nil _ _
  rw[←hbn];refine h2.setCell _ (fun ad e=> ?_);rcases A with _|ad0
  ·cases e
  injection e with e
  subst e;show(ad0.add k).block ≠g;rw[Fe,hA ad0 rfl (hne' (by rw[hbn];simp))];exact hne
 intro ad e hbn;rcases h with⟨rfl,h1,h2⟩|⟨rfl,h1⟩
 ·exact hA ad e (hne' hbn)
 rcases A with _|ad0
 ·cases e
 injection e with e
 subst e;show(ad0.add k).block =d;rw[Fe];exact hA ad0 rfl (hne' hbn)
theorem JB (g d:Nat) (s:RS) (i:Int) (w:World) (h:Bn w g d s) (hl:s.b.length≤140737488351232):
    Calls Tryz.prog 200 #[.pointer (some ⟨g,0,none⟩), .int .i64 i] w fun e w'=>∃A n c,e= .returned (.slice A n c)∧Hid (n=(s.raw i).1.length)∧
     Hid (Cm w' 5 1 A n c (bs (s.raw i).1))∧Hid (Bn w' g d (s.raw i).2)∧Hid (Au (fun k=>k=g) w w')∧Hid (∀ad,A=some ad→w.heap.size≤ad.block):=by
 have hok:=h.ok;have H:=Lib.hid h;have HL:=Lib.hid hl;have hlen9:s.b.length≤9223372036854775807:=by omega
 obtain⟨⟨A,n,c,hn,hnc,hb,hr,hA⟩,hne,_⟩:=h;have hc0:w.cell? ⟨g,0,none⟩=some (.slice A n c):=hb.cell 0;have hc1:w.cell? ⟨g,1,none⟩=some (.bool s.e):=hb.cell 1;have hf0:w.frozen? ⟨g,0,none⟩=false:=hb.frozen 0;have HB:=Lib.hid hb;have HR:=Lib.hid hr;have HN:=Lib.hid hn;have HA:=Lib.hid hA;have hn9:n≤9223372036854775807:=by omega
 by_cases hneg:i<0∨(n:Int)<i
 ·have hraw:s.raw i=([],RS.bad):=by
    unfold RS.raw;rw[if_pos];rcases hneg with h|h
    ·exact .inr (.inl h)
    exact .inr (.inr (by omega))
  rw[hraw];clear hl hb hr hn hA hraw;have hq:i<0∨(¬i<0∧(n:Int)<i):=by omega
  clear hneg;rcases hq with q|⟨q,q2⟩
  all_goals
   go_enter Tryz.func200,Tryz.ntmps200;go_wp2_with fail;refine(Ey g d s _ H.out).mono ?_;rintro e w1 ⟨rfl,h1,h2⟩;have hc2:w1.cell? ⟨g,1,none⟩=some (.bool true):=by
    obtain⟨⟨_,_,_,_,_,hb1,_⟩,_⟩:=h1.out;exact hb1.cell 1
   go_wp2_with fail;go_ret;exact⟨none,0,0,rfl,rfl,Cm.nil _ _ _,h1,h2,fun ad e=>by cases e⟩
 have q1: ¬i<0:=by omega
 have q2: ¬(n:Int)<i:=by omega
 obtain⟨k,rfl⟩:=Int.eq_ofNat_of_zero_le (show 0≤i by omega);have hkn:k≤n:=by omega
 by_cases he:s.e=true
 ·have hs:=RS.eta_bad hok he;subst hs;have hraw:RS.bad.raw k=([],RS.bad):=by unfold RS.raw;rw[if_pos (.inl rfl)]
  rw[hraw];have hc2:w.cell? ⟨g,1,none⟩=some (.bool true):=hc1;clear hraw hl hb hr hn hA hneg he hc1;go_enter Tryz.func200,Tryz.ntmps200;go_wp2_with fail;go_ret;exact⟨none,0,0,rfl,rfl,Cm.nil _ _ _,H,Au.refl _ _,fun ad e=>by cases e⟩
 have he':s.e=false:=by simpa using he
 have hraw:s.raw k=(s.b.take k,⟨s.b.drop k,false⟩):=by unfold RS.raw;rw[if_neg (fun h=>h.elim he (fun h=>h.elim q1 (fun h=>by omega)))];simp
 rw[hraw];have HRD:Hid (Rd w A (bs (s.b.take k))):=Lib.hid (by rw[←It];exact hr.take k);have hkc:k≤c:=by omega
 have HB0:Hid (0+k≤SY):=ED (by omega);have HM:Hid ((bs (s.b.take k)).length =k):=Lib.hid (by rw[Am,List.length_take];omega);rw[he'] at hc1 hb;have HBF:=Lib.hid hb;have HG:=Lib.hid hb.lt;have hca: ∀o,(w.alloc o).cell? ⟨g,0,none⟩=some (.slice A n c):=fun o=>(hb.alloc o).cell 0
 clear hraw hl hb hr hn hA hneg he he' HB;go_enter Tryz.func200,Tryz.ntmps200;go_wp2_with (at_builtin;refine Bw rfl (.tmp 23) (.tmp 29) Gk rfl (Nat.le_refl _) rfl (Ol _) rfl (HRD.out.alloc _) HM (Ei _) HB0 ?_);intro A3 c3 w3 hown3 hchg3 hA3;have HO:=Lib.hid hown3;have HC:Hid (Au Ab w w3):=Lib.hid (((Au.refl Ab w).alloc (.cells #[] 5)).trans hchg3 (fun x hx hT=>by
  first|omega|(simp at hT;omega)|(obtain⟨ad,e,h⟩:=hT;injection e with e;subst e;simp at h;omega)))
 have HA3:Hid (∀ad,A3=some ad→w.heap.size≤ad.block):=Lib.hid (by
  rintro ad rfl;rcases hA3 with h|h<;>injection h with h<;>subst h<;>simp)
 clear hown3 hchg3 hA3;have hb3:=HBF.out.chg HC.out (fun h=>h);have hc3:w3.cell? ⟨g,0,none⟩=some (.slice A n c):=hb3.cell 0;have hf3:w3.frozen? ⟨g,0,none⟩=false:=hb3.frozen 0;have HCUT:=Lib.hid (fun A' c'=>Agk (A':=A') (c':=c') hb3 (HR.out.later HC.out) HN.out hnc hkn HA.out hne);clear hb3 hc0 hc1 hf0 hca;go_wp2_with fail
 all_goals go_ret
 all_goals
  refine⟨A3,k,c3,rfl, ?_, ?_,HCUT.out _ _ ?_,Au.setCell (S:=fun k=>k=g) (HC.out.mono (fun _ _ h=>h.elim)) (p:=⟨g,0,none⟩) (fun _=>rfl) _,HA3⟩
  ·refine Lib.hid ?_;have:=HN.out;omega
  ·have h1:=HO.out;simp only[EW,List.nil_append] at h1;refine h1.far (fun ad e=> ?_) _;have h4:=HA3.out ad e;have h5:=HG.out;show ad.block≠g;omega
  first|exact .inl ⟨rfl,by omega,rfl⟩|exact .inr ⟨rfl,rfl⟩
end Go.Proofs.YtjjhceeookpieaaGreat
end
section
set_option maxRecDepth 100000
set_option maxHeartbeats 1600000
open Go Go.RowKit
namespace Go.Proofs.YtjjhceeookpieaaGreat
theorem QX (a:Nat) (ha:a<18446744073709551616):(BitVec.ofInt 64 (a:Int)).toNat =a:=by
 rw[BitVec.ofInt_natCast,BitVec.toNat_ofNat];exact Nat.mod_eq_of_lt (by omega)
theorem OU (a b:Nat) (ha:a<18446744073709551616) (hb:b<18446744073709551616):bits .or .u64 (a:Int) (b:Int)=((a|||b:Nat):Int):=by
 have hx:a|||b<2^64:=Nat.or_lt_two_pow (by omega) (by omega)
 show IntKind.u64.wrap ((BitVec.ofInt 64 (a:Int)|||BitVec.ofInt 64 (b:Int)).toNat :Int)=_;rw[BitVec.toNat_or,QX a ha,QX b hb,IntKind.wrap_u64];omega
theorem Zi (b:UInt8):bits .and .u8 (b.toNat:Int) 127=((b.toNat%128:Nat):Int):=by
 have:=b.toNat_lt;rw[show(127:Int)=((127:Nat):Int) from rfl,u8_and_nat _ _ (by omega) (by omega),nat_mask7]
theorem Wr (k acc lo:Nat) (hk:k<9) (hacc:acc<128^k) (hlo:lo<128):bits .or .u64 (acc:Int) (IntKind.u64.wrap ((lo:Int)*2^(7*k)))=((acc+lo*128^k:Nat):Int)∧acc+lo*128^k<9223372036854775808∧acc+lo*128^k<128^(k+1):=by
 have e1:(2:Nat)^(7*k)=128^k:=by rw[Nat.pow_mul]
 have h1:lo*128^k≤127*128^k:=Nat.mul_le_mul_right _ (by omega);have h2:128^k*128≤9223372036854775808:=by
  have:(128:Nat)^(k+1)≤128^9:=Nat.pow_le_pow_right (by decide) (by omega);rw[Nat.pow_succ] at this;exact this
 have h3:acc+lo*128^k<128^k*128:=by omega
 have e2:((lo:Int)*2^(7*k))=((lo*128^k:Nat):Int):=by
  rw[←e1];simp
 refine⟨?_,by omega,by rw[Nat.pow_succ];exact h3⟩;rw[e2,IntKind.wrap_u64,show(((lo*128^k:Nat):Int)%18446744073709551616)=((lo*128^k:Nat):Int) by omega,OU _ _ (by omega) (by omega)]
 congr 1
 rw[Nat.or_comm];have:=nat_join (7*k) (lo*128^k) acc (by rw[e1];exact Nat.mul_mod_left _ _) (by rw[e1];exact hacc);rw[this];omega
theorem RS.raw_one (b:List UInt8) (k:Nat) (h:k<b.length):(⟨b.drop k,false⟩:RS).raw 1=([b[k]],⟨b.drop (k+1),false⟩):=by
 unfold RS.raw;rw[if_neg (by
  rintro(h1|h1|h1)
  ·cases h1
  ·omega
  rw[List.length_drop] at h1;omega),List.drop_eq_getElem_cons h]
 rfl
theorem AV (g d:Nat) (s:RS) (w:World) (h:Bn w g d s) (hl:s.b.length≤140737488351232):
    Calls Tryz.prog 140 #[.pointer (some ⟨g,0,none⟩)] w fun e w'=>e= .returned (.int .i64 s.num.1)∧Hid (Bn w' g d s.num.2)∧Hid (Au (fun k=>k=g) w w'):=by
 have H:=Lib.hid h;have hok:=Lib.hid h.ok;have HL:=Lib.hid hl;clear h hl;go_enter Tryz.func140,Tryz.ntmps140;go_wp2_with fail;go_loopw [3,4] (fun a t wr=>∃k acc:Nat,k≤9∧t= .int .i64 k∧a= .int .u64 acc∧Hid (acc<128^k)∧Hid (k≤s.b.length)∧Hid (Bn wr g d ⟨s.b.drop k,s.e⟩)∧Hid (DG 0 0 s.b=DG k acc (s.b.drop k))∧Hid (Au (fun k=>k=g) w wr)) (fun _ t _=>10 -(intOf t).toNat)
 case atStart=>exact⟨0,0,by omega,rfl,rfl,Lib.hid (by decide),Lib.hid (Nat.zero_le _),H,Lib.hid rfl,Lib.hid (Au.refl _ _)⟩
 case round=>
  obtain⟨k,acc,hk,rfl,rfl,HACC,HKL,HW,HPAR,HC⟩:=hrel;have e1:(k:Int)<10:=by omega
  go_wp2_with fail;refine(JB g d _ 1 _ HW.out (by rw[List.length_drop];have:=HL.out;omega)).mono ?_;rintro e w1 ⟨A1,n1,c1,rfl,hn1,ho1,h1,h2,h3⟩;have HC1:Hid (Au (fun k=>k=g) w w1):=Lib.hid (HC.out.trans h2.out (fun _ _ h=>h));by_cases hbad:s.e=true∨s.b.length≤k
  ·have hraw:(⟨s.b.drop k,s.e⟩:RS).raw 1=([],RS.bad):=by
     unfold RS.raw;rw[if_pos];rcases hbad with h|h
     ·exact .inl h
     exact .inr (.inr (by rw[List.length_drop];omega))
   rw[hraw] at h1;have HNUM:Hid (s.num=(0,RS.bad)):=Lib.hid (by
    rcases hbad with h|h
    ·have hs:=RS.eta_bad hok.out h;rw[hs];rfl
    unfold RS.num;rcases he:s.e with _|_
    ·rw[if_neg (by decide),HPAR.out,List.drop_eq_nil_of_le h,DG]
    have hs:=RS.eta_bad hok.out he;rw[hs];rfl)
   have hc2:w1.cell? ⟨g,1,none⟩=some (.bool true):=by
    obtain⟨⟨_,_,_,_,_,hb1,_⟩,_⟩:=h1.out;exact hb1.cell 1
   clear hraw hbad hn1 ho1 h3 h2;go_wp2_with fail;go_ret;rw[HNUM.out];exact⟨rfl,h1,HC1⟩
  have he:s.e=false:=by
    rcases h:s.e with _|_
    ·rfl
    exact absurd (.inl h) hbad
  have hkl:k<s.b.length:=by omega
  have hraw:=RS.raw_one s.b k hkl;rw[he] at ho1 hn1 h1;rw[hraw] at ho1 hn1 h1;have hdrop:=List.drop_eq_getElem_cons hkl;rw[hdrop] at HPAR;have HNUM:Hid (s.num=match DG 0 0 s.b with|some (n,r)=>(n,⟨r,false⟩)|none=>(0,RS.bad)):=Lib.hid (by unfold RS.num;rw[he];rfl);have HKL2:=Lib.hid (show k+1≤s.b.length from hkl);have HE:=Lib.hid he;generalize s.b[k]=b at ho1 hn1 h1 HPAR;obtain rfl:n1=1:=hn1.out;obtain⟨ad,hA1,hcb⟩:=ho1.out.rd 0 (GV b) rfl;subst hA1;rw[Be] at hcb;have hcb':w1.cell? ad=some (.int .u8 b.toNat):=hcb;have hc2:w1.cell? ⟨g,1,none⟩=some (.bool false):=by
   obtain⟨⟨_,_,_,_,_,hb1,_⟩,_⟩:=h1.out;exact hb1.cell 1
  have hb8:=b.toNat_lt;have qa:=Zi b;clear hcb hraw hbad hn1 ho1 h3 h2 hdrop hkl he HW;by_cases h9:k=9
  ·subst h9;have HP:Hid (s.num=(0,RS.bad)):=Lib.hid (by rw[HNUM.out,HPAR.out,VU (by omega)]);by_cases c1:1<b.toNat
   ·by_cases c2:127<b.toNat
    ·have g1:(127:Int)<b.toNat:=by omega
     clear qa;go_wp2_with fail;refine(Ey g d _ _ h1.out).mono ?_;rintro e w4 ⟨rfl,h4,h5⟩;go_wp2_with fail;go_ret;rw[HP.out];exact⟨rfl,h4,HC1.out.trans h5.out (fun _ _ h=>h)⟩
    have g1:(b.toNat:Int)≤127:=by omega
    have g2:(1:Int)<b.toNat:=by omega
    clear qa;go_wp2_with fail;refine(Ey g d _ _ h1.out).mono ?_;rintro e w4 ⟨rfl,h4,h5⟩;go_wp2_with fail;go_ret;rw[HP.out];exact⟨rfl,h4,HC1.out.trans h5.out (fun _ _ h=>h)⟩
   have g1:(b.toNat:Int)≤127:=by omega
   have g2:(b.toNat:Int)≤1:=by omega
   have hacc:=HACC.out;have hacc':acc<9223372036854775808:=hacc;have q1:bits .or .u64 (acc:Int) (IntKind.u64.wrap (IntKind.u64.wrap (bits .and .u8 1 127)*9223372036854775808))=((acc+9223372036854775808:Nat):Int):=by
    rw[show IntKind.u64.wrap (IntKind.u64.wrap (bits .and .u8 1 127)*9223372036854775808)=((9223372036854775808:Nat):Int) by decide,OU _ _ (by omega) (by omega),Nat.or_comm];have:=nat_join 63 9223372036854775808 acc (by decide) (by omega);rw[this]
    congr 1
    omega
   have hb01:b=0∨b=1:=by
    rcases(show b.toNat=0∨b.toNat=1 by omega) with h|h
    ·exact .inl (UInt8.toNat_inj.1 (by simpa using h))
    exact .inr (UInt8.toNat_inj.1 (by simpa using h))
   obtain⟨N,hN⟩: ∃N,N=acc+9223372036854775808:=⟨_,rfl⟩;rw[←hN] at q1;have hN1:(4611686018427387904:Int)<N:=by omega
   have hN2:N≤18446744073709551615:=by omega
   clear hN qa c1 hacc hb8 hacc' g1 g2;rcases hb01 with rfl|rfl
   all_goals
    go_wp2_with fail;refine(Ey g d _ _ h1.out).mono ?_;rintro e w4 ⟨rfl,h4,h5⟩;go_wp2_with fail;go_ret;rw[HP.out];exact⟨rfl,h4,HC1.out.trans h5.out (fun _ _ h=>h)⟩
  have hk9:k<9:=by omega
  have b9:((k:Int)==9)=false:=by simp;omega
  obtain⟨q3,hq,hq'⟩:=Wr k acc (b.toNat%128) hk9 HACC.out (by omega);obtain⟨na,hna⟩: ∃na,na=acc+b.toNat%128*128^k:=⟨_,rfl⟩;obtain⟨lo,hlo⟩: ∃lo,lo=b.toNat%128:=⟨_,rfl⟩;rw[←hlo] at qa q3 hq hq' hna;rw[←hna] at q3 hq hq';have HQ:=Lib.hid hq';have hlo':lo<128:=by omega
  have hq9:na≤9223372036854775807:=by omega
  clear hq hq' h9;by_cases h128:128≤b.toNat
  ·have hp:=OC (acc:=acc) (r:=s.b.drop (k+1)) hk9 h128;rw[←hlo,←hna] at hp;have HPAR2:=Lib.hid (HPAR.out.trans hp);have g1:(127:Int)<b.toNat:=by omega
   clear hp hna hlo;go_wp2_with fail;exact⟨⟨k+1,na,by omega,by go_num,rfl,HQ,HKL2,by rw[HE.out];exact h1,HPAR2,HC1⟩,by simp[intOf];omega⟩
  have g1:(b.toNat:Int)≤127:=by omega
  by_cases hz:b.toNat=0∧0<k
  ·have hp:=QL (b:=b) (acc:=acc) (r:=s.b.drop (k+1)) hk9 (by omega) (.inr hz);have HPAR2:=Lib.hid (HPAR.out.trans hp);have hz2:=hz.2;obtain rfl:b=0:=UInt8.toNat_inj.1 (by simpa using hz.1);have g3:(0:Int)<k:=by omega
   have HP:Hid (s.num=(0,RS.bad)):=Lib.hid (by rw[HNUM.out,HPAR2.out]);obtain rfl:lo=0:=by simpa using hlo
   clear hp hna hlo hz hz2 h128 g1;go_wp2_with fail;refine(Ey g d _ _ h1.out).mono ?_;rintro e w4 ⟨rfl,h4,h5⟩;go_wp2_with fail;go_ret;rw[HP.out];exact⟨rfl,h4,HC1.out.trans h5.out (fun _ _ h=>h)⟩
  by_cases hgt:4611686018427387904<na
  ·have hp:=QL (b:=b) (acc:=acc) (r:=s.b.drop (k+1)) hk9 (by omega) (.inl (by rw[←hlo,←hna];exact hgt));have HPAR2:=Lib.hid (HPAR.out.trans hp);have HP:Hid (s.num=(0,RS.bad)):=Lib.hid (by rw[HNUM.out,HPAR2.out]);have g2:(4611686018427387904:Int)<na:=by omega
   have hzz: ¬(0:Int)<k∨((0:Int)<k∧((b.toNat:Int)==0)=false):=by
    by_cases h0:0<k
    ·exact .inr ⟨by omega,by simp;omega⟩
    exact .inl (by omega)
   clear hp hna hlo hgt hz;rcases hzz with z1|⟨z1,z2⟩
   all_goals
    go_wp2_with fail;refine(Ey g d _ _ h1.out).mono ?_;rintro e w4 ⟨rfl,h4,h5⟩;go_wp2_with fail;go_ret;rw[HP.out];exact⟨rfl,h4,HC1.out.trans h5.out (fun _ _ h=>h)⟩
  have hp:=QM (b:=b) (acc:=acc) (r:=s.b.drop (k+1)) hk9 (by omega) (by rw[←hlo,←hna];omega) hz;rw[←hlo,←hna] at hp;have HPAR2:=Lib.hid (HPAR.out.trans hp);have HP:Hid (s.num=(na,⟨s.b.drop (k+1),false⟩)):=Lib.hid (by rw[HNUM.out,HPAR2.out]);have g2:(na:Int)≤4611686018427387904:=by omega
  have hzz: ¬(0:Int)<k∨((0:Int)<k∧((b.toNat:Int)==0)=false):=by
   by_cases h0:0<k
   ·exact .inr ⟨by omega,by simp;omega⟩
   exact .inl (by omega)
  clear hp hna hlo hgt hz;rcases hzz with z1|⟨z1,z2⟩
  all_goals
   go_wp2_with fail;go_ret;rw[HP.out];exact⟨rfl,h1,HC1⟩
theorem Hu (g d:Nat) (s:RS) (w:World) (h:Bn w g d s) (hl:s.b.length≤140737488351232):
    Calls Tryz.prog 201 #[.pointer (some ⟨g,0,none⟩)] w fun e w'=>e= .returned (.bool (!s.e&&decide (s.b=[])))∧w'=w:=by
 obtain⟨⟨A,n,c,hn,hnc,hb,_⟩,_⟩:=h;have hc0:w.cell? ⟨g,0,none⟩=some (.slice A n c):=hb.cell 0;have hc1:w.cell? ⟨g,1,none⟩=some (.bool s.e):=hb.cell 1;have hn9:n≤9223372036854775807:=by omega
 have HN:=Lib.hid hn;clear hb hn hl hnc;rcases he:s.e with _|_
 ·rw[he] at hc1;have hq:((n:Int)==0)=decide (s.b=[]):=by
   have:=HN.out;rcases hb0:s.b with _|⟨x,l⟩
   ·rw[hb0] at this;simp at this;simp[this]
   rw[hb0] at this;simp at this;simp;omega
  rw[←hq];clear he hq;go_enter Tryz.func201,Tryz.ntmps201;go_wp2_with fail;go_ret;exact⟨by simp,rfl⟩
 rw[he] at hc1;clear he;go_enter Tryz.func201,Tryz.ntmps201;go_wp2_with fail;go_ret;exact⟨by simp,rfl⟩
end Go.Proofs.YtjjhceeookpieaaGreat
end
section
open Go Go.RowKit
namespace Go.Proofs.YtjjhceeookpieaaGreat
theorem PZ (g d:Nat) (s:RS) (w:World) (h:Bn w g d s) (hl:s.b.length≤140737488351232):
    Calls Tryz.prog 204 #[.pointer (some ⟨g,0,none⟩)] w fun e w'=>∃A n c,e= .returned (.slice A n c)∧Hid (n=s.row.1.length)∧
     Hid (Cm w' 5 1 A n c (bs s.row.1))∧Hid (Bn w' g d s.row.2)∧Hid (Au (fun k=>k=g) w w')∧Hid (∀ad,A=some ad→w.heap.size≤ad.block):=by
 have H:=Lib.hid h;have HL:=Lib.hid hl;clear h hl;go_enter Tryz.func204,Tryz.ntmps204;go_wp2_with fail;refine(AV g d s _ H.out HL.out).mono ?_;rintro e w1 ⟨rfl,h1,h2⟩;have hc2:w1.cell? ⟨g,1,none⟩=some (.bool s.num.2.e):=by
  obtain⟨⟨_,_,_,_,_,hb1,_⟩,_⟩:=h1.out;exact hb1.cell 1
 rcases he:s.num.2.e with _|_
 ·rw[he] at hc2;clear he;go_wp2_with fail;refine(JB g d s.num.2 s.num.1 _ h1.out (Nat.le_trans s.num_le HL.out)).mono ?_;rintro e w2 ⟨A,n,c,rfl,h3,h4,h5,h6,h7⟩;go_wp2_with fail;go_ret;exact⟨A,n,c,rfl,h3,h4,h5,h2.out.trans h6.out (fun _ _ h=>h),fun ad e=>by have h8:=h7.out ad e;have h9:=h2.out.size;omega⟩
 have hrow:s.row=([],RS.bad):=by
   unfold RS.row RS.raw;rw[if_pos (.inl he)]
 have hs:=RS.eta_bad h1.out.ok he;rw[hs] at h1;have HROW:=Lib.hid hrow;rw[he] at hc2;clear he hs hrow;go_wp2_with fail;go_ret;rw[HROW.out];exact⟨none,0,0,rfl,rfl,Cm.nil _ _ _,h1,h2,fun ad e=>by cases e⟩
end Go.Proofs.YtjjhceeookpieaaGreat
end
