/- UhRoE, UhRoF, UhRoG, UhSnC, UhSnD, UhTgD, UhTgE, UhTgH, UhTgI, UhTgJ -/
import Derived.Test.YtjjhceeookpieaaGreatUhZ
import Derived.Test.YtjjhceeookpieaaGreatUhUnD
import Derived.Test.YtjjhceeookpieaaGreatUhTy
import Derived.Test.YtjjhceeookpieaaGreatUhQmA
import Derived.Test.YtjjhceeookpieaaGreatUhSnA
import Derived.Test.YtjjhceeookpieaaGreatUhWuB
import Derived.Test.YtjjhceeookpieaaGreatUhTgB
section
open Go Go.RowKit
namespace Go.Proofs.YtjjhceeookpieaaGreat
theorem Mq (hh:Ak) (w:World):(Instr.buildSlice 28 1 #[(0, .agg (Aw hh.l))]).run Tryz.prog w= .ok (.slice (some ⟨w.heap.size,0,none⟩) 1 1) (w.alloc (.cells (Aw hh.l) 23)):=by
 have hs:=hh.size;have hz: ∀w,(zeroValue 23).run Tryz.prog w= .ok (.agg (Aw Aq.l)) w:=fun _=>by kernel_rfl
 have hi: ∀w,(sizeOf 23).run Tryz.prog w= .ok 32 w:=fun _=>by kernel_rfl
 unfold Instr.buildSlice;simp only[Sem.run_bind,run_underlying Tryz.underlying28,Result.andThen_ok,hi];have hf:Instr.fill (fun i=>some (i*32,32)) ((Array.range (1*32)).map ((Aw Aq.l)[·%(Aw Aq.l).size]!)) [(0,Value.agg (Aw hh.l))]=some (Aw hh.l):=by
  rw[AZ _ _ 0 (.agg (Aw hh.l)) [] (off:=0) (size:=32) rfl hs (by simp),JN _ _ (by show(Aw hh.l).size =_;rw[hs];simp)];rfl
 simp[hz,Value.cells,hf,newRow]
theorem Ab8 {s:RS} {k:Nat} (h:(hS s k).b ≠[]):s.b≠[]:=fun h0=>by
 have h1:=QR s k;rw[h0] at h1;exact h (List.eq_nil_of_length_eq_zero (by simpa using h1))
theorem Ab9 {s:RS} (h:s.num.2.b≠[]):s.b≠[]:=fun h0=>by
 have h1:=RS.num_le s;rw[h0] at h1;exact h (List.eq_nil_of_length_eq_zero (by simpa using h1))
theorem GC {w0 w:World} {A A':Option Addr} (g:Mc w A A') (h:Aj w0 A) (s:w0.heap.size≤w.heap.size):Aj w0 A':=⟨fun ad e=>by
 rcases g.out with k|k
 ·exact h.out ad (by rw[←k];exact e)
 rw[k] at e;injection e with e
 subst e;exact s⟩
theorem Ck (w:World):Aj w none:=⟨fun ad e=>by cases e⟩
end Go.Proofs.YtjjhceeookpieaaGreat
end
section
open Go Go.RowKit
namespace Go.Proofs.YtjjhceeookpieaaGreat
theorem OO (k:KR) (w:World):(Instr.build 30 #[(0, .slice k.A k.n k.c),(1, .int .i64 k.need)]).run Tryz.prog w= .ok (.agg (Af.enc k).toArray) w:=by kernel_rfl
end Go.Proofs.YtjjhceeookpieaaGreat
end
section
open Go Go.RowKit
namespace Go.Proofs.YtjjhceeookpieaaGreat
def ZG (b:List UInt8):Int×Int×List (List Ak×Int)×Int:=if EP b then(Pt b,Zd b,kK (Nz b) 4,0) else(0,0,DJ.map KR.m,2)
def Aff (b:List UInt8) (w:World):Ending→World→Prop:=fun e w'=>Ag Ab w w'∧∃v x K err,e= .returned (.tuple #[.agg (BA v x K).toArray, .int .i64 err])∧Hid (K.length=4∧(v,x,K.map KR.m,err)=ZG b)∧Hid (DV w w' K)
theorem Aba (v e:Int) (K:List KR):FW v e (K.map KR.m)=Dc v e K:=by
 rw[FW,Dc,List.all_map];rfl
end Go.Proofs.YtjjhceeookpieaaGreat
end
section
open Go Go.RowKit
namespace Go.Proofs.YtjjhceeookpieaaGreat
theorem HB.cells {α:Type} [Af α] {w:World} {z:Nat} {t:TypeId} {l:List α} (h:HB w z t (cellsOf l).toArray):HR w (some ⟨z,0,none⟩) (cellsOf l):=⟨by
 have h1:=h.rdL;simpa using h1⟩
end Go.Proofs.YtjjhceeookpieaaGreat
end
section
open Go Go.RowKit
namespace Go.Proofs.YtjjhceeookpieaaGreat
def snM (b:List UInt8):Int×Int×List AE×Int:=if Gf b then(Qc b,Qd b,KY b,0) else(0,0,[],2)
def Afh (b:List UInt8) (w:World):Ending→World→Prop:=fun e w'=>Ag Ab w w'∧∃v x A n c P err,e= .returned (.tuple #[.agg #[.int .i64 v, .int .i64 x, .slice A n c], .int .i64 err])∧Hid ((v,x,P,err)=snM b∧P.length=n∧n≤c∧n≤16)∧Hid (Rd w' A (cellsOf P))∧Aj w A
end Go.Proofs.YtjjhceeookpieaaGreat
end
section
set_option maxRecDepth 100000
set_option maxHeartbeats 1600000
open Go Go.RowKit
namespace Go.Proofs.YtjjhceeookpieaaGreat
structure Ax where
 l:List UInt8
 k:KR
 pre:List UInt8
 last:Bool
instance Ama:Af Ax:=⟨5,fun d=>[.string (Al d.l), .slice d.k.A d.k.n d.k.c, .int .i64 d.k.need, .string (Al d.pre), .bool d.last],fun _=>rfl,fun d u hu=>by
 simp only[List.mem_cons,List.not_mem_nil,or_false] at hu;rcases hu with rfl|rfl|rfl|rfl|rfl<;>rfl,⟨[],⟨none,0,0,[],0⟩,[],false⟩⟩
def GN:Array Value:=#[.string ⟨#[]⟩, .slice none 0 0, .int .i64 0, .string ⟨#[]⟩, .bool false]
instance Amb:Bm Tryz.prog 64 213 5 72 (.agg GN):=⟨⟨Tryz.underlying64,by kernel_rfl,rfl,by decide⟩⟩
instance Amc:Cl Tryz.prog 213 5:=⟨by kernel_rfl,_,Tryz.underlying213,rfl⟩
instance Akd:Eb Tryz.prog 213 GN:=⟨.agg GN,fun _=>by kernel_rfl,rfl⟩
instance Aiy:AL Tryz.prog 214:=⟨fun _=>by kernel_rfl,fun _=>by kernel_rfl⟩
instance Ake:AL Tryz.prog 222:=⟨fun _=>by kernel_rfl,fun _=>by kernel_rfl⟩
theorem Sr {w:World} {g zl zf n c:Nat} {A B:Option Addr} {xs:List UInt8} {l:List Ad} {t1 t2:TypeId} {fx:FuncId} (hf:fx= 127) (ys:Ad→List UInt8) (U:Nat→Prop) (hw:Cz w g A xs) [h1:HB w zl t1 #[.slice B n c]] [h2:HB w zf t2 #[.func (.func fx) #[] #[]]] (hr:Rd w B (cellsOf l)) (hl:l.length=n) (hm:n≤1000000000)
    (hU: ∀x,U x→¬Wf g A x) (hUl: ∀x,U x→x<w.heap.size) (hzl: ¬Wf g A zl) (hzf: ¬Wf g A zf) (hB:Dx (Wf g A) B (cellsOf l)) (hlay: ∀x∈l,∀w1,Au (fun x=>¬U x) w w1→Calls Tryz.prog 127 #[.agg (Af.enc x).toArray] w1 (AF w1 (ys x) U)) (hx:xs.length+(l.flatMap ys).length ≤1000000000):
    Calls Tryz.prog 223 #[.pointer (some ⟨g,0,none⟩), .pointer (some ⟨zl,0,none⟩), .pointer (some ⟨zf,0,none⟩)] w fun e w'=>e= .returned (.tuple #[])∧∃A',Cz w' g A' (xs++l.flatMap ys)∧Au (Wf g A) w w'∧Cb w A A':=by
 subst hf;have HL:=Lib.hid hl;have HLAY:=Lib.hid hlay;have HX:=Lib.hid hx;clear hlay hx;go_enter Tryz.func223,Tryz.ntmps223;go_wp2_with (first|((with_reducible apply Ac);exact rfl;infer_instance;(first|(exact rfl)|(exact tg_hw _)|(exact tg_ctr _)|(exact tg_ecu _)|(exact srch_who)|exact srch_fd)));go_loopw [8] (fun iv wr=>∃(k:Nat) (A1:Option Addr),k≤n∧iv= .int .i64 (k:Int)∧Cz wr g A1 (xs++(l.take k).flatMap ys)∧Au (Wf g A) w wr∧Cb w A A1) (fun iv _=>n -(intOf iv).toNat)
 case atStart=>exact⟨0,A,Nat.zero_le _,rfl,by simpa using hw,Au.refl _ _,Cb.refl _ _⟩
 case round=>
  obtain⟨k,A1,hk,rfl,hW,hC,hM⟩:=hrel;have HW:=Lib.hid hW;have HM:=Lib.hid hM;clear hW hM;by_cases hlt:k<n
  ·have hltI:(k:Int)<n:=by omega
   have hkl:k<l.length:=by omega
   have hr1:HR wr B (cellsOf l):=⟨hr.chg hC hB⟩;have k2:HB wr zf t2 #[.func (.func 127) #[] #[]]:=⟨h2.out.chg hC hzf⟩;have hmem:gt l k∈l:=BD l k hkl;have HTK:Hid ((l.take (k+1)).flatMap ys=(l.take k).flatMap ys++ys (gt l k)):=Lib.hid (by
    rw[←List.take_append_getElem hkl,List.flatMap_append];simp[gt,List.getD_eq_getElem?_getD,hkl])
   have HLE:Hid (((l.take k).flatMap ys).length +(ys (gt l k)).length ≤(l.flatMap ys).length):=Lib.hid (by
    have e:l.flatMap ys=(l.take (k+1)).flatMap ys++(l.drop (k+1)).flatMap ys:=by rw[←List.flatMap_append,List.take_append_drop]
    rw[e,HTK.out,List.length_append,List.length_append];omega)
   go_wp2_with (first|(refine BB 5 ?_;intro zv wzv _ _ _)|(refine Cp ?_)|((with_reducible apply Ac);exact rfl;infer_instance;(first|(exact rfl)|(exact tg_hw _)|(exact tg_ctr _)|(exact tg_ecu _)|(exact srch_who)|exact srch_fd))|(refine Bt ?_;intro ws _ _)|(refine Ja Ad 63 ?_)|(refine Rk Ad 44 ?_));refine(HLAY.out (gt l k) hmem _ ((hC.mono (fun x _ h h'=>hU x h' h)).trans (Aa (w0:=wr)).chg (fun _ _ h=>h.elim))).mono ?_;rintro e w5 ⟨f,caps,T,rfl,hs5,hL5,hT5⟩;have n5:Nw wr w5:=inferInstance;have hsz:=n5.out.size;obtain⟨f9,caps9,he9,hent,hrun⟩:=hL5.run;injection he9 with e1 _ e2
   injection e1 with e1
   subst e1 e2;have hTT: ∀x,Wf g A1 x→¬T x:=by
    intro x hx hTx;have hxl:=HW.out.old x hx;rcases hT5 x hTx with h|h
    ·have:=Nat.le_trans (Aa (w0:=wr)).chg.size h;omega
    rcases hx with rfl|⟨ad,e,rfl⟩
    ·exact hU _ h (.inl rfl)
    rcases HM.out with rfl|⟨ad',e',h'⟩
    ·exact hU _ h (.inr ⟨ad,e,rfl⟩)
    rw[e] at e';injection e' with e'
    subst e';have:=hUl _ h;omega
   have HRUN:=Lib.hid (hrun w5 g A1 (xs++(l.take k).flatMap ys) (Au.refl _ _) (HW.out.chg n5.out (fun _ _ h=>h)) hTT (by
    have h1:=HLE.out;have h2:=HX.out;rw[List.length_append];omega))
   clear hrun hL5 hT5;go_wp2_with fail;refine HRUN.out.mono ?_;rintro e w6 ⟨rfl,A6,hW6,hC6,hM6⟩;have h7:=En (hC.trans n5.out (fun _ _ h=>h.elim)) HM.out hC6 hM6;have HW6:=Lib.hid hW6;clear hW6 hC6 hM6;go_wp2_with fail;refine⟨⟨k+1,A6,by omega,by go_num, ?_,h7.1,h7.2⟩,by simp[intOf];omega⟩;rw[HTK.out,←List.append_assoc];exact HW6.out
  have hltI: ¬(k:Int)<n:=by omega
  have hfin:l.take k=l:=List.take_of_length_le (by have:=HL.out;omega);rw[hfin] at HW;go_wp2_with fail
  go_end0
  exact⟨rfl,A1,HW.out,hC,HM.out⟩
theorem Uz {w:World} {n c:Nat} {B:Option Addr} {l:List Ad} (ys:Ad→List UInt8) (U:Nat→Prop) (hr:Rd w B (cellsOf l)) (hl:l.length=n) (hm:n≤1000000000) (hUl: ∀x,U x→x<w.heap.size)
    (hlay: ∀x∈l,∀w1,Au (fun x=>¬U x) w w1→Calls Tryz.prog 127 #[.agg (Af.enc x).toArray] w1 (AF w1 (ys x) U)):
    Calls Tryz.prog 190 #[.slice B n c, .func (.func 127) #[] #[]] w (AF w (l.flatMap ys) (fun x=>(cellsOf l≠[]∧An B x)∨U x)):=by
 have HLAY:=Lib.hid hlay;clear hlay;unfold AF;go_enter Tryz.func190,Tryz.ntmps190;go_wp2_with (first|(refine WBL 2 ?_;intro bl wbl _ _ _)|((with_reducible apply(Dd (dst:=some 3) (cs:=#[.func (.func 127) #[] #[]])));exact rfl;exact rfl;intro bv wbv _ _ _));go_ret;have h1:HB wbv bl 63 #[.slice B n c]:=inferInstance;have h2:HB wbv bv 220 #[.func (.func 127) #[] #[]]:=inferInstance;have hst:Ag Ab w wbv:=Aa;have hbl:w.heap.size≤bl:=Nat.le_of_eq (inferInstance:AW w bl).eq.symm;have hbv:w.heap.size≤bv:=by
  have e1:=(inferInstance:AW wbl bv).eq;have e2:=(inferInstance:Ay w wbl).out;omega
 have hr2:=hr.later hst.chg;refine⟨_,_,fun x=>x=bl∨x=bv∨(cellsOf l≠[]∧An B x)∨U x,rfl,hst,⟨fun x hx=> ?_,_,_,rfl,EI Tryz.func223 (by kernel_rfl) rfl,fun w1 g A xs hc hw hT hlen=> ?_⟩,fun x hx=> ?_⟩
 ·rcases hx with rfl|rfl|⟨hne,ad,e,hk⟩|h
  ·exact h1.out.lt
  ·exact h2.out.lt
  ·rw[←hk];exact DC hr2 hne e
  exact Nat.lt_of_lt_of_le (hUl x h) hst.chg.size
 ·have k1:HB w1 bl 63 #[.slice B n c]:=⟨h1.out.chg hc (fun hk=>hk (.inl rfl))⟩;have k2:HB w1 bv 220 #[.func (.func 127) #[] #[]]:=⟨h2.out.chg hc (fun hk=>hk (.inr (.inl rfl)))⟩;exact Sr (zl:=bl) (zf:=bv) rfl ys U hw (hr2.chg hc (fun hne ad e hk=>hk (.inr (.inr (.inl ⟨hne,ad,e,rfl⟩))))) hl hm
   (fun x hx h=>hT x h (.inr (.inr (.inr hx)))) (fun x hx=>Nat.lt_of_lt_of_le (Nat.lt_of_lt_of_le (hUl x hx) hst.chg.size) hc.size) (fun h=>hT _ h (.inl rfl)) (fun h=>hT _ h (.inr (.inl rfl))) (fun hne ad e hk=>hT _ hk (.inr (.inr (.inl ⟨hne,ad,e,rfl⟩))))
   (fun x hx w2 h=>HLAY.out x hx w2 (((hst.chg.mono (T:=fun x=>¬U x) (fun _ _ h=>h.elim)).trans (hc.mono (fun x _ h h'=>h (.inr (.inr (.inr h'))))) (fun _ _ h=>h)).trans h (fun _ _ h=>h))) (by omega)
 rcases hx with rfl|rfl|h|h
 ·exact .inl hbl
 ·exact .inl hbv
 ·exact .inr (.inl h)
 exact .inr (.inr h)
theorem Nl {w:World} {n c:Nat} {B:Option Addr} {l:List Ad} (ys:Ad→List UInt8) (U:Nat→Prop) (hr:Rd w B (cellsOf l)) (hl:l.length=n) (hm:n≤1000000000) (hUl: ∀x,U x→x<w.heap.size)
    (hlay: ∀x∈l,∀w1,Au (fun x=>¬U x) w w1→Calls Tryz.prog 127 #[.agg (Af.enc x).toArray] w1 (AF w1 (ys x) U)):
    Calls Tryz.prog 126 #[.slice B n c, .func (.func 127) #[] #[]] w (AF w (Ae [(n:Int)]++l.flatMap ys) (fun x=>(cellsOf l≠[]∧An B x)∨U x)):=by
 have kb0:=AM (n:Int);have HLAY:=Lib.hid hlay;have HL:=Lib.hid hl;clear hlay hl;unfold AF;go_enter Tryz.func126,Tryz.ntmps126;go_wp2_with (first|(refine BM 7 (kb0 _) ?_;intro zb wb _ _ _));refine(Ci (z:=zb) (vs:=[(n:Int)]) rfl rfl (show 9*1≤1000000000 by decide)).mono ?_;rintro e w5 ⟨f5,caps5,T5,rfl,_,hL5,hT5⟩;have hzb:w.heap.size≤zb:=(Aj.monoS (w0:=w) (Aj.of_born (z:=zb) 0)).out ⟨zb,0,none⟩ rfl;go_wp2_with fail;refine(Uz (l:=l) ys U (hr.later (Aa (w0:=w)).chg) HL.out hm (fun x h=>Nat.lt_of_lt_of_le (hUl x h) (Aa (w0:=w)).chg.size) (fun x hx w1 h=>HLAY.out x hx w1 (((Aa (w0:=w)).chg.mono (fun _ _ h=>h.elim)).trans h (fun _ _ h=>h)))).mono ?_;rintro e w6 ⟨f6,caps6,T6,rfl,_,hL6,hT6⟩;have kb2:=BL f5 f6 caps5 caps6;go_wp2_with (first|(refine BM 12 (kb2 _) ?_;intro zc wb _ _ _));refine(DY (z:=zc) (hL5.later (Aa (w0:=w5)).chg (fun _ _ h=>h)) (hL6.later (Aa (w0:=w6)).chg (fun _ _ h=>h))).mono ?_;rintro e w7 ⟨f7,caps7,T7,rfl,_,hL7,hT7⟩;have hzc:w.heap.size≤zc:=(Aj.monoS (w0:=w) (Aj.of_born (z:=zc) 0)).out ⟨zc,0,none⟩ rfl;go_wp2_with fail;go_ret;refine⟨f7,caps7,T7,rfl,Aa,hL7,fun x hx=> ?_⟩;rcases hT7 x hx with h|rfl|h|h
 ·exact .inl (Nat.le_trans (Aa (w0:=w)).chg.size h)
 ·exact .inl hzc
 ·rcases hT5 x h with h|rfl
  ·exact .inl (Nat.le_trans (Aa (w0:=w)).chg.size h)
  exact .inl hzb
 rcases hT6 x h with h|h
 ·exact .inl (Nat.le_trans (Aa (w0:=w)).chg.size h)
 exact .inr h
theorem Ss {w:World} {g zl zf n c:Nat} {A B:Option Addr} {xs:List UInt8} {l:List Ax} {t1 t2:TypeId} {fx:FuncId} (hf:fx= 129) (ys:Ax→List UInt8) (U:Nat→Prop) (hw:Cz w g A xs) [h1:HB w zl t1 #[.slice B n c]] [h2:HB w zf t2 #[.func (.func fx) #[] #[]]] (hr:Rd w B (cellsOf l)) (hl:l.length=n) (hm:n≤1000000000)
    (hU: ∀x,U x→¬Wf g A x) (hUl: ∀x,U x→x<w.heap.size) (hzl: ¬Wf g A zl) (hzf: ¬Wf g A zf) (hB:Dx (Wf g A) B (cellsOf l)) (hlay: ∀x∈l,∀w1,Au (fun x=>¬U x) w w1→Calls Tryz.prog 129 #[.agg (Af.enc x).toArray] w1 (AF w1 (ys x) U)) (hx:xs.length+(l.flatMap ys).length ≤1000000000):
    Calls Tryz.prog 224 #[.pointer (some ⟨g,0,none⟩), .pointer (some ⟨zl,0,none⟩), .pointer (some ⟨zf,0,none⟩)] w fun e w'=>e= .returned (.tuple #[])∧∃A',Cz w' g A' (xs++l.flatMap ys)∧Au (Wf g A) w w'∧Cb w A A':=by
 subst hf;have HL:=Lib.hid hl;have HLAY:=Lib.hid hlay;have HX:=Lib.hid hx;clear hlay hx;go_enter Tryz.func224,Tryz.ntmps224;go_wp2_with (first|((with_reducible apply Ac);exact rfl;infer_instance;(first|(exact rfl)|(exact tg_hw _)|(exact tg_ctr _)|(exact tg_ecu _)|(exact srch_who)|exact srch_fd)));go_loopw [8] (fun iv wr=>∃(k:Nat) (A1:Option Addr),k≤n∧iv= .int .i64 (k:Int)∧Cz wr g A1 (xs++(l.take k).flatMap ys)∧Au (Wf g A) w wr∧Cb w A A1) (fun iv _=>n -(intOf iv).toNat)
 case atStart=>exact⟨0,A,Nat.zero_le _,rfl,by simpa using hw,Au.refl _ _,Cb.refl _ _⟩
 case round=>
  obtain⟨k,A1,hk,rfl,hW,hC,hM⟩:=hrel;have HW:=Lib.hid hW;have HM:=Lib.hid hM;clear hW hM;by_cases hlt:k<n
  ·have hltI:(k:Int)<n:=by omega
   have hkl:k<l.length:=by omega
   have hr1:HR wr B (cellsOf l):=⟨hr.chg hC hB⟩;have k2:HB wr zf t2 #[.func (.func 129) #[] #[]]:=⟨h2.out.chg hC hzf⟩;have hmem:gt l k∈l:=BD l k hkl;have HTK:Hid ((l.take (k+1)).flatMap ys=(l.take k).flatMap ys++ys (gt l k)):=Lib.hid (by
    rw[←List.take_append_getElem hkl,List.flatMap_append];simp[gt,List.getD_eq_getElem?_getD,hkl])
   have HLE:Hid (((l.take k).flatMap ys).length +(ys (gt l k)).length ≤(l.flatMap ys).length):=Lib.hid (by
    have e:l.flatMap ys=(l.take (k+1)).flatMap ys++(l.drop (k+1)).flatMap ys:=by rw[←List.flatMap_append,List.take_append_drop]
    rw[e,HTK.out,List.length_append,List.length_append];omega)
   go_wp2_with (first|(refine BB 5 ?_;intro zv wzv _ _ _)|(refine Cp ?_)|((with_reducible apply Ac);exact rfl;infer_instance;(first|(exact rfl)|(exact tg_hw _)|(exact tg_ctr _)|(exact tg_ecu _)|(exact srch_who)|exact srch_fd))|(refine Bt ?_;intro ws _ _)|(refine Ja Ax 64 ?_)|(refine Rk Ax 213 ?_));refine(HLAY.out (gt l k) hmem _ ((hC.mono (fun x _ h h'=>hU x h' h)).trans (Aa (w0:=wr)).chg (fun _ _ h=>h.elim))).mono ?_;rintro e w5 ⟨f,caps,T,rfl,hs5,hL5,hT5⟩;have n5:Nw wr w5:=inferInstance;have hsz:=n5.out.size;obtain⟨f9,caps9,he9,hent,hrun⟩:=hL5.run;injection he9 with e1 _ e2
   injection e1 with e1
   subst e1 e2;have hTT: ∀x,Wf g A1 x→¬T x:=by
    intro x hx hTx;have hxl:=HW.out.old x hx;rcases hT5 x hTx with h|h
    ·have:=Nat.le_trans (Aa (w0:=wr)).chg.size h;omega
    rcases hx with rfl|⟨ad,e,rfl⟩
    ·exact hU _ h (.inl rfl)
    rcases HM.out with rfl|⟨ad',e',h'⟩
    ·exact hU _ h (.inr ⟨ad,e,rfl⟩)
    rw[e] at e';injection e' with e'
    subst e';have:=hUl _ h;omega
   have HRUN:=Lib.hid (hrun w5 g A1 (xs++(l.take k).flatMap ys) (Au.refl _ _) (HW.out.chg n5.out (fun _ _ h=>h)) hTT (by
    have h1:=HLE.out;have h2:=HX.out;rw[List.length_append];omega))
   clear hrun hL5 hT5;go_wp2_with fail;refine HRUN.out.mono ?_;rintro e w6 ⟨rfl,A6,hW6,hC6,hM6⟩;have h7:=En (hC.trans n5.out (fun _ _ h=>h.elim)) HM.out hC6 hM6;have HW6:=Lib.hid hW6;clear hW6 hC6 hM6;go_wp2_with fail;refine⟨⟨k+1,A6,by omega,by go_num, ?_,h7.1,h7.2⟩,by simp[intOf];omega⟩;rw[HTK.out,←List.append_assoc];exact HW6.out
  have hltI: ¬(k:Int)<n:=by omega
  have hfin:l.take k=l:=List.take_of_length_le (by have:=HL.out;omega);rw[hfin] at HW;go_wp2_with fail
  go_end0
  exact⟨rfl,A1,HW.out,hC,HM.out⟩
theorem UA {w:World} {n c:Nat} {B:Option Addr} {l:List Ax} (ys:Ax→List UInt8) (U:Nat→Prop) (hr:Rd w B (cellsOf l)) (hl:l.length=n) (hm:n≤1000000000) (hUl: ∀x,U x→x<w.heap.size)
    (hlay: ∀x∈l,∀w1,Au (fun x=>¬U x) w w1→Calls Tryz.prog 129 #[.agg (Af.enc x).toArray] w1 (AF w1 (ys x) U)):
    Calls Tryz.prog 191 #[.slice B n c, .func (.func 129) #[] #[]] w (AF w (l.flatMap ys) (fun x=>(cellsOf l≠[]∧An B x)∨U x)):=by
 have HLAY:=Lib.hid hlay;clear hlay;unfold AF;go_enter Tryz.func191,Tryz.ntmps191;go_wp2_with (first|(refine WBL 2 ?_;intro bl wbl _ _ _)|((with_reducible apply(Dd (dst:=some 3) (cs:=#[.func (.func 129) #[] #[]])));exact rfl;exact rfl;intro bv wbv _ _ _));go_ret;have h1:HB wbv bl 64 #[.slice B n c]:=inferInstance;have h2:HB wbv bv 222 #[.func (.func 129) #[] #[]]:=inferInstance;have hst:Ag Ab w wbv:=Aa;have hbl:w.heap.size≤bl:=Nat.le_of_eq (inferInstance:AW w bl).eq.symm;have hbv:w.heap.size≤bv:=by
  have e1:=(inferInstance:AW wbl bv).eq;have e2:=(inferInstance:Ay w wbl).out;omega
 have hr2:=hr.later hst.chg;refine⟨_,_,fun x=>x=bl∨x=bv∨(cellsOf l≠[]∧An B x)∨U x,rfl,hst,⟨fun x hx=> ?_,_,_,rfl,EI Tryz.func224 (by kernel_rfl) rfl,fun w1 g A xs hc hw hT hlen=> ?_⟩,fun x hx=> ?_⟩
 ·rcases hx with rfl|rfl|⟨hne,ad,e,hk⟩|h
  ·exact h1.out.lt
  ·exact h2.out.lt
  ·rw[←hk];exact DC hr2 hne e
  exact Nat.lt_of_lt_of_le (hUl x h) hst.chg.size
 ·have k1:HB w1 bl 64 #[.slice B n c]:=⟨h1.out.chg hc (fun hk=>hk (.inl rfl))⟩;have k2:HB w1 bv 222 #[.func (.func 129) #[] #[]]:=⟨h2.out.chg hc (fun hk=>hk (.inr (.inl rfl)))⟩;exact Ss (zl:=bl) (zf:=bv) rfl ys U hw (hr2.chg hc (fun hne ad e hk=>hk (.inr (.inr (.inl ⟨hne,ad,e,rfl⟩))))) hl hm
   (fun x hx h=>hT x h (.inr (.inr (.inr hx)))) (fun x hx=>Nat.lt_of_lt_of_le (Nat.lt_of_lt_of_le (hUl x hx) hst.chg.size) hc.size) (fun h=>hT _ h (.inl rfl)) (fun h=>hT _ h (.inr (.inl rfl))) (fun hne ad e hk=>hT _ hk (.inr (.inr (.inl ⟨hne,ad,e,rfl⟩))))
   (fun x hx w2 h=>HLAY.out x hx w2 (((hst.chg.mono (T:=fun x=>¬U x) (fun _ _ h=>h.elim)).trans (hc.mono (fun x _ h h'=>h (.inr (.inr (.inr h'))))) (fun _ _ h=>h)).trans h (fun _ _ h=>h))) (by omega)
 rcases hx with rfl|rfl|h|h
 ·exact .inl hbl
 ·exact .inl hbv
 ·exact .inr (.inl h)
 exact .inr (.inr h)
theorem Nm {w:World} {n c:Nat} {B:Option Addr} {l:List Ax} (ys:Ax→List UInt8) (U:Nat→Prop) (hr:Rd w B (cellsOf l)) (hl:l.length=n) (hm:n≤1000000000) (hUl: ∀x,U x→x<w.heap.size)
    (hlay: ∀x∈l,∀w1,Au (fun x=>¬U x) w w1→Calls Tryz.prog 129 #[.agg (Af.enc x).toArray] w1 (AF w1 (ys x) U)):
    Calls Tryz.prog 128 #[.slice B n c, .func (.func 129) #[] #[]] w (AF w (Ae [(n:Int)]++l.flatMap ys) (fun x=>(cellsOf l≠[]∧An B x)∨U x)):=by
 have kb0:=AM (n:Int);have HLAY:=Lib.hid hlay;have HL:=Lib.hid hl;clear hlay hl;unfold AF;go_enter Tryz.func128,Tryz.ntmps128;go_wp2_with (first|(refine BM 7 (kb0 _) ?_;intro zb wb _ _ _));refine(Ci (z:=zb) (vs:=[(n:Int)]) rfl rfl (show 9*1≤1000000000 by decide)).mono ?_;rintro e w5 ⟨f5,caps5,T5,rfl,_,hL5,hT5⟩;have hzb:w.heap.size≤zb:=(Aj.monoS (w0:=w) (Aj.of_born (z:=zb) 0)).out ⟨zb,0,none⟩ rfl;go_wp2_with fail;refine(UA (l:=l) ys U (hr.later (Aa (w0:=w)).chg) HL.out hm (fun x h=>Nat.lt_of_lt_of_le (hUl x h) (Aa (w0:=w)).chg.size) (fun x hx w1 h=>HLAY.out x hx w1 (((Aa (w0:=w)).chg.mono (fun _ _ h=>h.elim)).trans h (fun _ _ h=>h)))).mono ?_;rintro e w6 ⟨f6,caps6,T6,rfl,_,hL6,hT6⟩;have kb2:=BL f5 f6 caps5 caps6;go_wp2_with (first|(refine BM 12 (kb2 _) ?_;intro zc wb _ _ _));refine(DY (z:=zc) (hL5.later (Aa (w0:=w5)).chg (fun _ _ h=>h)) (hL6.later (Aa (w0:=w6)).chg (fun _ _ h=>h))).mono ?_;rintro e w7 ⟨f7,caps7,T7,rfl,_,hL7,hT7⟩;have hzc:w.heap.size≤zc:=(Aj.monoS (w0:=w) (Aj.of_born (z:=zc) 0)).out ⟨zc,0,none⟩ rfl;go_wp2_with fail;go_ret;refine⟨f7,caps7,T7,rfl,Aa,hL7,fun x hx=> ?_⟩;rcases hT7 x hx with h|rfl|h|h
 ·exact .inl (Nat.le_trans (Aa (w0:=w)).chg.size h)
 ·exact .inl hzc
 ·rcases hT5 x h with h|rfl
  ·exact .inl (Nat.le_trans (Aa (w0:=w)).chg.size h)
  exact .inl hzb
 rcases hT6 x h with h|h
 ·exact .inl (Nat.le_trans (Aa (w0:=w)).chg.size h)
 exact .inr h
end Go.Proofs.YtjjhceeookpieaaGreat
end
section
open Go Go.RowKit
namespace Go.Proofs.YtjjhceeookpieaaGreat
instance Akf:Cl Tryz.prog 66 5:=⟨by kernel_rfl,_,Tryz.underlying66,rfl⟩
instance Aiz:Eb Tryz.prog 66 #[.string ⟨#[]⟩, .int .i64 0, .int .i64 0, .slice none 0 0, .slice none 0 0]:=⟨.agg #[.string ⟨#[]⟩, .int .i64 0, .int .i64 0, .slice none 0 0, .slice none 0 0],fun _=>by kernel_rfl,rfl⟩
structure Anf (nm:List UInt8) (v e0:Int) (P:List Ad):Prop where
 nm:Bl nm=true
 v:BE v=true
 e:Ca e0=true
 n:P.length≤16
 a:P.all DX=true
def Aj0 (A:Option Addr) (P:List Ad):Nat→Prop:=fun x=>cellsOf P≠[]∧An A x
def Im (P:List Ad):List UInt8:=P.flatMap NL
def Ang (nm:List UInt8) (v e0:Int) (n:Nat) (P:List Ad):List UInt8:=Ap nm++(Ae [v,e0]++((Ae [(n:Int)]++Im P)++Ae [0]))
theorem UB (P:List Ad) (h:P.all DX=true):(Im P).length ≤140*P.length:=by
 induction P with
 |nil=>exact Nat.zero_le _
 |cons p P ih=>
  have e:Im (p::P)=NL p++Im P:=rfl;rw[List.all_cons,Bool.and_eq_true] at h;have h1:=ih h.2;have h2:=h.1;unfold DX at h2;simp only[Bool.and_eq_true,decide_eq_true_eq] at h2;have a1:=Dr p.l (by have:=CE h2.1.1.1.1.1;omega);have a2:=Dr p.hw (by have:=CE h2.1.1.2;omega);have a3:=Dr p.ecu (by have:=GS h2.2;omega);have b1:=CE h2.1.1.1.1.1;have b2:=CE h2.1.1.2;have b3:=GS h2.2;have c1:=Az [p.size];have c2:=Az [p.ctr];have c3:=p.sum.len;rw[e,List.length_append,List.length_cons,NL];simp only[List.length_append,List.length_cons,List.length_nil] at*;omega
end Go.Proofs.YtjjhceeookpieaaGreat
end
section
set_option maxRecDepth 100000
set_option maxHeartbeats 1600000
open Go Go.RowKit
namespace Go.Proofs.YtjjhceeookpieaaGreat
def Vh (w:World) (d:Ax):Prop:=BN w d.k
theorem Vh.nw {w0 w:World} [n:Nw w0 w] {d:Ax} (h:Vh w0 d):Vh w d:=BN.nw (w0:=w0) h
structure FG (w:World) (d:Ax):Prop where
 rd:Rd w d.k.A (cellsOf d.k.l)
 len:d.k.l.length=d.k.n
 cap:d.k.n≤d.k.c
 le:d.k.n≤4398046511104
theorem FG.nw {w0 w:World} [n:Nw w0 w] {d:Ax} (h:FG w0 d):FG w d:=⟨h.rd.chg n.out (fun _ _ _ h=>h),h.len,h.cap,h.le⟩
theorem Vh.w {w:World} {d:Ax} (h:Vh w d):FG w d:=⟨BN.rd h,BN.len h,BN.cap h,Nat.le_trans (BN.le h) (by decide)⟩
def Fd (d:Ax):Bool:=Bl d.l&&Nf d.k.l d.k.need&&Fw d.pre
def Gl (b:Bool):List UInt8:=Ae [if b then 1 else 0]
def Xr (d:Ax):List UInt8:=Ap d.l++(Du d.k.l d.k.need++(Ap d.pre++Gl d.last))
theorem Xs (d:Ax):((Af.enc d).toArray.toList.drop 1).take 2=[.slice d.k.A d.k.n d.k.c, .int .i64 d.k.need]:=rfl
theorem St (d:Ax) {w:World} (hd:FG w d):
    Calls Tryz.prog 122 #[.agg (Af.enc d).toArray] w fun e w'=>e= .returned (.bool (Fd d))∧Ag Ab w w':=by
 have HD:=Lib.hid hd;clear hd;have hsz:(Af.enc d).toArray.size =5:=rfl;have hon:=AY d;obtain⟨R,hR⟩: ∃R,R=Fd d:=⟨_,rfl⟩;have HR0:Hid (R=(Bl d.l&&Nf d.k.l d.k.need&&Fw d.pre)):=Lib.hid hR;rw[←hR];clear hR;cases h0:Bl d.l
 case false=>
  have HF:Hid (R=false):=Lib.hid (by rw[HR0.out,h0];simp);go_enter Tryz.func122,Tryz.ntmps122;go_wp2_with (first|(refine Bv 1 ?_;intro zt wzt _ _ _)|((with_reducible apply Ac);exact rfl;infer_instance;(first|(exact rfl)|(exact tg_hw _)|(exact tg_ctr _)|(exact tg_ecu _)|(exact srch_who)|exact srch_fd)));refine(Bs (Al d.l) d.l rfl _).mono ?_;rw[h0];rintro e w5 ⟨rfl,_⟩;go_wp2_with (first|go_skip);go_ret;rw[HF.out];exact⟨rfl,Aa⟩
 cases h1:Nf d.k.l d.k.need
 case false=>
  have HF:Hid (R=false):=Lib.hid (by rw[HR0.out,h1];simp);go_enter Tryz.func122,Tryz.ntmps122;go_wp2_with (first|(refine Bv 1 ?_;intro zt wzt _ _ _)|((with_reducible apply Ac);exact rfl;infer_instance;(first|(exact rfl)|(exact tg_hw _)|(exact tg_ctr _)|(exact tg_ecu _)|(exact srch_who)|exact srch_fd)));refine(Bs (Al d.l) d.l rfl _).mono ?_;rw[h0];rintro e w5 ⟨rfl,_⟩;go_wp2_with (first|((with_reducible apply(CA (g:=zt) (k:=1) (n:=2) (tb:=213) (cs:=(Af.enc d).toArray) (vs:=[.slice d.k.A d.k.n d.k.c, .int .i64 d.k.need])));exact rfl;infer_instance;infer_instance;exact(by decide);exact rfl;exact rfl)|(refine Ct ?_)|(refine CG ?_));have hr5:HR w5 d.k.A (cellsOf d.k.l):=⟨HD.out.rd.later (Aa (w0:=w)).chg⟩;refine(Hx (l:=d.k.l) d.k.need HD.out.len HD.out.cap HD.out.le).mono ?_;rw[h1];rintro e w6 ⟨rfl,_⟩;go_wp2_with (first|go_skip);go_ret;rw[HF.out];exact⟨rfl,Aa⟩
 have HF:Hid (R=Fw d.pre):=Lib.hid (by rw[HR0.out,h0,h1];simp);clear HR0;go_enter Tryz.func122,Tryz.ntmps122;go_wp2_with (first|(refine Bv 1 ?_;intro zt wzt _ _ _)|((with_reducible apply Ac);exact rfl;infer_instance;(first|(exact rfl)|(exact tg_hw _)|(exact tg_ctr _)|(exact tg_ecu _)|(exact srch_who)|exact srch_fd)));refine(Bs (Al d.l) d.l rfl _).mono ?_;rw[h0];rintro e w5 ⟨rfl,_⟩;go_wp2_with (first|((with_reducible apply(CA (g:=zt) (k:=1) (n:=2) (tb:=213) (cs:=(Af.enc d).toArray) (vs:=[.slice d.k.A d.k.n d.k.c, .int .i64 d.k.need])));exact rfl;infer_instance;infer_instance;exact(by decide);exact rfl;exact rfl)|(refine Ct ?_)|(refine CG ?_));have hr5:HR w5 d.k.A (cellsOf d.k.l):=⟨HD.out.rd.later (Aa (w0:=w)).chg⟩;refine(Hx (l:=d.k.l) d.k.need HD.out.len HD.out.cap HD.out.le).mono ?_;rw[h1];rintro e w6 ⟨rfl,_⟩;go_wp2_with (first|(refine Ct ?_)|(refine CG ?_)|((with_reducible apply Ac);exact rfl;infer_instance;(first|(exact rfl)|(exact tg_hw _)|(exact tg_ctr _)|(exact tg_ecu _)|(exact srch_who)|exact srch_fd)));refine(Nr (Al d.pre) d.pre rfl _).mono ?_;rintro e w7 ⟨rfl,_⟩;go_wp2_with fail;go_ret;rw[HF.out];exact⟨rfl,Aa⟩
theorem UC (k:Ax) {w:World} {zi:Nat} {t:TypeId} [hz:HB w zi t #[.func (.func 122) #[] #[]]] (hk:FG w k):
    Calls Tryz.prog 187 #[.agg (Af.enc k).toArray, .pointer (some ⟨zi,0,none⟩)] w fun e w'=>e= .returned (.bool (!Fd k))∧Ag Ab w w':=by
 have HK:=Lib.hid hk;clear hk;have hsz:(Af.enc k).toArray.size =5:=rfl;have hon:=AY k;go_enter Tryz.func187,Tryz.ntmps187;go_wp2_with (first|(refine Bv 2 ?_;intro zk wzk _ _ _)|(refine Cp ?_)|((with_reducible apply Ac);exact rfl;infer_instance;(first|(exact rfl)|(exact tg_hw _)|(exact tg_ctr _)|(exact tg_ecu _)|(exact srch_who)|exact srch_fd)));refine(St k (FG.nw (w0:=w) HK.out)).mono ?_;rintro e w5 ⟨rfl,_⟩;go_wp2_with fail;go_ret;exact⟨rfl,Aa⟩
theorem UD {A:Option Addr} {n c zi:Nat} {t:TypeId} {K:List Ax} {w:World} [hr:HR w A (cellsOf K)] [hz:HB w zi t #[.func (.func 122) #[] #[]]] (hK: ∀k∈K,FG w k) (hl:K.length=n) (hmax:n≤1000000000):
    Calls Tryz.prog 219 #[.slice A n c, .func (.func 187) #[] #[.pointer (some ⟨zi,0,none⟩)]] w fun e w'=>∃r:Int,e= .returned (.int .i64 r)∧(0≤r↔K.any (fun k=>!Fd k)=true)∧Ag Ab w w':=by
 have HL:=Lib.hid hl;have HMI:=Lib.hid hK;obtain⟨R,hR⟩: ∃R,R=K.any (fun k=>!Fd k):=⟨_,rfl⟩;rw[←hR];have HRR:=Lib.hid hR;clear hK hR;go_enter Tryz.func219,Tryz.ntmps219;go_wp2_with fail;go_loopw [8] (fun kv wr=>∃k:Nat,k≤n∧kv= .int .i64 (k:Int)∧Hid ((K.take k).any (fun k=>!Fd k)=false)∧Ag Ab w wr) (fun kv _=>n -(intOf kv).toNat)
 case atStart=>exact⟨0,Nat.zero_le _,rfl,Lib.hid rfl,Aa⟩
 case round=>
  obtain⟨k,hk,rfl,HJ,_⟩:=hrel;by_cases hlt:k<n
  ·have hltI:(k:Int)<n:=by omega
   have hkl:k<K.length:=by omega
   have hmem:gt K k∈K:=BD K k hkl;have HMK:Hid (FG w (gt K k)):=Lib.hid (HMI.out _ hmem);have hts:(K.take (k+1)).any (fun k=>!Fd k)=((K.take k).any (fun k=>!Fd k)||!Fd (gt K k)):=by
    rw[←List.take_append_getElem hkl,List.any_append];simp[gt,List.getD_eq_getElem?_getD,hkl]
   obtain⟨V,hV⟩: ∃V,V=Fd (gt K k):=⟨_,rfl⟩;rw[HJ.out,Bool.false_or,←hV] at hts;have HV:=Lib.hid hV;have HTS:=Lib.hid hts;have HAL:Hid (V=false→R=true):=Lib.hid (fun h=>by rw[HRR.out];exact List.any_eq_true.2 ⟨_,hmem,by rw[←hV,h];rfl⟩);clear hmem hts hV;go_wp2_with (first|(refine Ja Ax 64 ?_)|(refine Rk Ax 213 ?_));refine(UC (gt K k) (FG.nw HMK.out)).mono ?_;rw[←HV.out];rintro e w1 ⟨rfl,_⟩;cases V with
   |false=>
    have HAR:Hid (R=true):=Lib.hid (HAL.out rfl);clear HAL;go_wp2_with fail;go_ret;exact⟨_,rfl,⟨fun _=>HAR.out,fun _=>by omega⟩,Aa⟩
   |true=>
    go_wp2_with fail;exact⟨⟨k+1,by omega,by go_num,HTS,Aa⟩,by simp[intOf];omega⟩
  have hltI: ¬(k:Int)<n:=by omega
  have HF:Hid (R=false):=Lib.hid (by
   have h1:=HJ.out;rw[HRR.out];rwa[List.take_of_length_le (by omega)] at h1)
  go_wp2_with fail;go_ret;refine⟨_,rfl,⟨fun h=>by simp at h,fun h=> ?_⟩,Aa⟩;rw[HF.out] at h;cases h
theorem Su {A:Option Addr} {n c zi:Nat} {t:TypeId} {K:List Ax} {w:World} [hr:HR w A (cellsOf K)] [hz:HB w zi t #[.func (.func 122) #[] #[]]] (hK: ∀k∈K,FG w k) (hl:K.length=n) (hmax:n≤1000000000):
    Calls Tryz.prog 186 #[.slice A n c, .func (.func 187) #[] #[.pointer (some ⟨zi,0,none⟩)]] w fun e w'=>e= .returned (.bool (K.any (fun k=>!Fd k)))∧Ag Ab w w':=by
 have HMI:=Lib.hid hK;clear hK;go_enter Tryz.func186,Tryz.ntmps186;go_wp2_with fail;refine(UD (K:=K) (fun r hr=>HMI.out r hr) hl hmax).mono ?_;rintro e w1 ⟨r,rfl,hr,_⟩;have hd:decide (0≤r)=K.any (fun k=>!Fd k):=by rw[Bool.eq_iff_iff,decide_eq_true_eq];exact hr
 have HD:=Lib.hid hd;clear hd hr;go_wp2_with fail;go_ret;refine⟨?_,Aa⟩;rw[←HD.out];rfl
theorem UE {A:Option Addr} {n c:Nat} {K:List Ax} {w:World} [hr:HR w A (cellsOf K)] (hK: ∀k∈K,FG w k) (hl:K.length=n) (hmax:n≤1000000000):
    Calls Tryz.prog 121 #[.slice A n c, .func (.func 122) #[] #[]] w fun e w'=>e= .returned (.bool (K.all Fd))∧Ag Ab w w':=by
 have HMI:=Lib.hid hK;have hd:(!K.any (fun k=>!Fd k))=K.all Fd:=by simp[List.all_eq_not_any_not]
 have HD:=Lib.hid hd;clear hK hd;go_enter Tryz.func121,Tryz.ntmps121;go_wp2_with (first|((with_reducible apply(Dd (dst:=some 3) (cs:=#[.func (.func 122) #[] #[]])));exact rfl;exact rfl;intro bl wbl _ _ _));refine(Su (K:=K) (fun k hk=>FG.nw (w0:=w) (HMI.out k hk)) hl hmax).mono ?_;rintro e w5 ⟨rfl,_⟩;go_wp2_with fail;go_ret;refine⟨?_,Aa⟩;rw[←HD.out];rfl
theorem Wz (b:Bool) (w:World):
    Calls Tryz.prog 192 #[.bool b] w (AF w (Gl b) Ab):=by
 unfold AF Gl;cases b
 all_goals
  go_enter Tryz.func192,Tryz.ntmps192;go_wp2_with (first|(refine WBs (AM _ _) ?_;intro zb wb _ _ _))
 ·refine(Ci (z:=zb) (vs:=[0]) rfl rfl (show 9*1≤1000000000 by decide)).mono ?_;rintro e w5 ⟨f5,caps5,T5,rfl,_,hL5,hT5⟩;have hzb:w.heap.size≤zb:=(Aj.monoS (w0:=w) (Aj.of_born (z:=zb) 0)).out ⟨zb,0,none⟩ rfl;go_wp2_with fail;go_ret
  first|refine⟨f5,caps5,T5,rfl,Aa,hL5,fun x hx=> ?_⟩|refine⟨f5,caps5,rfl,Aa,T5,hL5,fun x hx=> ?_⟩
  rcases hT5 x hx with h|rfl
  ·exact .inl (Nat.le_trans (Aa (w0:=w)).chg.size h)
  exact .inl hzb
 refine(Ci (z:=zb) (vs:=[1]) rfl rfl (show 9*1≤1000000000 by decide)).mono ?_;rintro e w5 ⟨f5,caps5,T5,rfl,_,hL5,hT5⟩;have hzb:w.heap.size≤zb:=(Aj.monoS (w0:=w) (Aj.of_born (z:=zb) 0)).out ⟨zb,0,none⟩ rfl;go_wp2_with fail;go_ret
 first|refine⟨f5,caps5,T5,rfl,Aa,hL5,fun x hx=> ?_⟩|refine⟨f5,caps5,rfl,Aa,T5,hL5,fun x hx=> ?_⟩
 rcases hT5 x hx with h|rfl
 ·exact .inl (Nat.le_trans (Aa (w0:=w)).chg.size h)
 exact .inl hzb
theorem KA (d:Ax) {w:World} (hd:Vh w d):
    Calls Tryz.prog 129 #[.agg (Af.enc d).toArray] w (AF w (Xr d) (Jw d.k.A d.k.l)):=by
 have HD:=Lib.hid hd;clear hd;have hsz:(Af.enc d).toArray.size =5:=rfl;have hon:=AY d;unfold AF;go_enter Tryz.func129,Tryz.ntmps129;go_wp2_with (first|(refine Bv 1 ?_;intro zt wzt _ _ _));have hwz:=(Aa (w0:=w) (w:=wzt)).chg.size;refine Ah (Ab) (by kernel_rfl) (fun wd _ _=> ?_);refine YS 0 ?_;refine' tk 1 _ rfl (by kernel_rfl) (by kernel_rfl) (by kernel_rfl) (fun _ _ _ h=>h) (yo (by rfl) fun w' _=> ?_) inferInstance ?_;rotate_left
 ·((apply Ai);exact rfl;infer_instance;infer_instance;(first|(exact rfl)|(exact tg_hw _)|(exact tg_ctr _)|(exact tg_ecu _)|(exact srch_who)|exact srch_fd))
 try simp only[Act.put,sA,sB,sC]
 refine YS 3 ?_;refine' tk 4 _ rfl (by kernel_rfl) (by kernel_rfl) (by kernel_rfl) (fun _ _ _ h=>h) (yo (by rfl) fun w' _=> ?_) inferInstance ?_;rotate_left
 ·((apply Ab6);exact rfl;infer_instance;infer_instance;exact Xs _;exact rfl;(decide))
 try simp only[Act.put,sA,sB,sC]
 refine YS 6 ?_;refine' tk 7 _ rfl (by kernel_rfl) (by kernel_rfl) (by kernel_rfl) (fun _ _ _ h=>h) (yo (by rfl) fun w' _=> ?_) inferInstance ?_;rotate_left
 ·((apply Ai);exact rfl;infer_instance;infer_instance;(first|(exact rfl)|(exact tg_hw _)|(exact tg_ctr _)|(exact tg_ecu _)|(exact srch_who)|exact srch_fd))
 try simp only[Act.put,sA,sB,sC]
 refine YS 9 ?_;refine' tk 10 _ rfl (by kernel_rfl) (by kernel_rfl) (by kernel_rfl) (fun _ _ _ h=>h) (yo (by rfl) fun w' _=> ?_) inferInstance ?_;rotate_left
 ·((apply Ai);exact rfl;infer_instance;infer_instance;(first|(exact rfl)|(exact tg_hw _)|(exact tg_ctr _)|(exact tg_ecu _)|(exact srch_who)|exact srch_fd))
 try simp only[Act.put,sA,sB,sC]
 refine Yg 2 fun K_ hK_=> ?_
 go_simp;refine(AD (Al d.l) d.l rfl _).mono ?_;rintro e w4 ⟨f4,caps4,T4,rfl,_,hL4,hT4⟩;refine Yz hK_ ?_;clear hK_ K_;refine Yg 5 fun K_ hK_=> ?_
 go_simp;refine(Kw d.k (BN.chg HD.out (Aa (w0:=w)).chg (fun _ _ h=>h))).mono ?_;rintro e w5 ⟨f5,caps5,T5,rfl,_,hL5,hT5⟩;refine Yz hK_ ?_;clear hK_ K_;refine Yg 8 fun K_ hK_=> ?_
 go_simp;refine(AD (Al d.pre) d.pre rfl _).mono ?_;rintro e w6 ⟨f6,caps6,T6,rfl,_,hL6,hT6⟩;refine Yz hK_ ?_;clear hK_ K_;refine Yg 11 fun K_ hK_=> ?_
 go_simp;refine(Wz d.last _).mono ?_;rintro e w7 ⟨f7,caps7,T7,rfl,_,hL7,hT7⟩;refine Yz hK_ ?_;clear hK_ K_;refine Yh 12 fun K_ hK_=> ?_
 (refine BM 15 (Pn _ _ _ _ _ _ _ _ _) ?_;intro zc wb _ _ _)
 refine Yn hK_ ?_;clear hK_ K_;refine Yg 13 fun K_ hK_=> ?_
 go_simp;refine(SQ (z:=zc) (hL4.later (Aa (w0:=w4)).chg (fun _ _ h=>h)) (hL5.later (Aa (w0:=w5)).chg (fun _ _ h=>h)) (hL6.later (Aa (w0:=w6)).chg (fun _ _ h=>h)) (hL7.later (Aa (w0:=w7)).chg (fun _ _ h=>h))).mono ?_;rintro e w8 ⟨f8,caps8,T8,rfl,_,hL8,hT8⟩;have hzc:w.heap.size≤zc:=(Aj.monoS (w0:=w) (Aj.of_born (z:=zc) 0)).out ⟨zc,0,none⟩ rfl;refine Yz hK_ ?_;clear hK_ K_;refine YS 14 ?_;refine Yd ?_
 all_goals
  go_wp2_with fail;go_ret
  first|refine⟨f8,caps8,T8,rfl,Aa,hL8,fun x hx=> ?_⟩|refine⟨f8,caps8,rfl,Aa,T8,hL8,fun x hx=> ?_⟩
  rcases hT8 x hx with h|rfl|h|h|h|h
  ·exact .inl (Nat.le_trans (Aa (w0:=w)).chg.size h)
  ·exact .inl hzc
  ·exact .inl (Nat.le_trans (Aa (w0:=w)).chg.size (hT4 x h))
  ·rcases hT5 x h with h|h
   ·exact .inl (Nat.le_trans (Aa (w0:=w)).chg.size h)
   exact .inr h
  ·exact .inl (Nat.le_trans (Aa (w0:=w)).chg.size (hT6 x h))
  rcases hT7 x h with h|h
  ·exact .inl (Nat.le_trans (Aa (w0:=w)).chg.size h)
  exact h.elim
end Go.Proofs.YtjjhceeookpieaaGreat
end
section
set_option maxRecDepth 100000
set_option maxHeartbeats 1600000
open Go Go.RowKit
namespace Go.Proofs.YtjjhceeookpieaaGreat
abbrev Sv:=List UInt8
instance Akg:Af Sv:=⟨1,fun s=>[.string (Al s)],fun _=>rfl,fun s u hu=>by
 rw[List.mem_singleton.1 hu];rfl,[]⟩
instance Akh:Bm Tryz.prog 216 9 1 16 (.string ⟨#[]⟩):=⟨⟨Tryz.underlying216,by kernel_rfl,rfl,by decide⟩⟩
def JG (l:List Sv):Nat→Bool
 |0=>true
 |k+1=>JG l k&&!decide (gt l k∈l.take k)
theorem Pc (l:List Sv) (k:Nat) (h:JG l k=false): ∀n,k≤n→JG l n=false
 |0,hn=>by
  obtain rfl:k=0:=by omega
  exact h
 |n+1,hn=>by
  by_cases e:k=n+1
  ·subst e;exact h
  rw[JG,Pc l k h n (by omega),Bool.false_and]
theorem Pd (l:List Sv) (k:Nat):Eg (Af.enc (gt l k)) 0=some (.string (Al (gt l k))):=rfl
theorem Sw {A:Option Addr} {n c:Nat} {l:List Sv} (x:Sv) {w:World} [hr:HR w A (cellsOf l)] (hl:l.length=n) (hmax:n≤1000000000):
    Calls Tryz.prog 220 #[.slice A n c, .string (Al x)] w fun e w'=>∃r:Int,e= .returned (.int .i64 r)∧(0≤r↔x∈l)∧Ag Ab w w':=by
 have HL:=Lib.hid hl;go_enter Tryz.func220,Tryz.ntmps220;go_wp2_with fail;go_loopw [8] (fun kv wr=>∃k:Nat,k≤n∧kv= .int .i64 (k:Int)∧Hid (x∉l.take k)∧Ag Ab w wr) (fun kv _=>n -(intOf kv).toNat)
 case atStart=>exact⟨0,Nat.zero_le _,rfl,Lib.hid (by simp),Aa⟩
 case round=>
  obtain⟨k,hk,rfl,HJ,_⟩:=hrel;by_cases hlt:k<n
  ·have hltI:(k:Int)<n:=by omega
   have hkl:k<l.length:=by omega
   have hmem:gt l k∈l:=BD l k hkl;have HTK:Hid (l.take (k+1)=l.take k++[gt l k]):=Lib.hid (by
    rw[←List.take_append_getElem hkl];simp[gt,List.getD_eq_getElem?_getD,hkl])
   by_cases hx:x=gt l k
   ·have hE:((Al x).toList ==(Al (gt l k)).toList)=true:=by rw[hx];simp
    have HM:Hid (x∈l):=Lib.hid (by rw[hx];exact hmem);clear hmem hx;go_wp2_with (first|((with_reducible apply(GD (α:=Sv) (k:=k) (j:=0) (s:=1)));infer_instance;exact rfl;infer_instance;exact rfl;exact hkl;exact Pd _ _)|(refine Ja Sv 216 ?_));go_ret;exact⟨_,rfl,⟨fun _=>HM.out,fun _=>by omega⟩,Aa⟩
   have hE:((Al x).toList ==(Al (gt l k)).toList)=false:=by rw[AI,AI];simpa using hx
   have HN:Hid (x∉l.take (k+1)):=Lib.hid (by
    rw[HTK.out,List.mem_append,List.mem_singleton];rintro(h|h)
    ·exact HJ.out h
    exact hx h)
   clear hmem hx;go_wp2_with (first|((with_reducible apply(GD (α:=Sv) (k:=k) (j:=0) (s:=1)));infer_instance;exact rfl;infer_instance;exact rfl;exact hkl;exact Pd _ _)|(refine Ja Sv 216 ?_));exact⟨⟨k+1,by omega,by go_num,HN,Aa⟩,by simp[intOf];omega⟩
  have hltI: ¬(k:Int)<n:=by omega
  have HF:Hid (x∉l):=Lib.hid (by
   have h1:=HJ.out;rwa[List.take_of_length_le (by have:=HL.out;omega)] at h1)
  go_wp2_with fail;go_ret;exact⟨_,rfl,⟨fun h=>by simp at h,fun h=>absurd h HF.out⟩,Aa⟩
theorem NA {A:Option Addr} {n c:Nat} {l:List Sv} (x:Sv) {w:World} [hr:HR w A (cellsOf l)] (hl:l.length=n) (hmax:n≤1000000000):
    Calls Tryz.prog 188 #[.slice A n c, .string (Al x)] w fun e w'=>e= .returned (.bool (decide (x∈l)))∧Ag Ab w w':=by
 go_enter Tryz.func188,Tryz.ntmps188;go_wp2_with fail;refine(Sw (l:=l) x hl hmax).mono ?_;rintro e w1 ⟨r,rfl,hr,_⟩;have hd:decide (0≤r)=decide (x∈l):=decide_eq_decide.2 hr;have HD:=Lib.hid hd;clear hd hr;go_wp2_with fail;go_ret;refine⟨?_,Aa⟩;rw[←HD.out];rfl
theorem Qe {A:Option Addr} {n c:Nat} {l:List Sv} {w:World} [hr:HR w A (cellsOf l)] (hl:l.length=n) (hc:n≤c) (hmax:n≤1000000000):
    Calls Tryz.prog 123 #[.slice A n c] w fun e w'=>e= .returned (.bool (JG l n))∧Ag Ab w w':=by
 obtain⟨R,hR⟩: ∃R,R=JG l n:=⟨_,rfl⟩;have HRE:=Lib.hid hR;rw[←hR];clear hR;go_enter Tryz.func123,Tryz.ntmps123;go_wp2_with fail;go_loopw [7] (fun kv wr=>∃k:Nat,k≤n∧kv= .int .i64 (k:Int)∧Hid (JG l k=true)∧Ag Ab w wr) (fun kv _=>n -(intOf kv).toNat)
 case atStart=>exact⟨0,Nat.zero_le _,rfl,Lib.hid rfl,Aa⟩
 case round=>
  obtain⟨k,hk,rfl,HA,_⟩:=hrel;by_cases hlt:k<n
  ·have hltI:(k:Int)<n:=by omega
   have hkl:k<l.length:=by omega
   have hkc:k≤c:=by omega
   have HTL:Hid ((l.take k).length =k):=Lib.hid (by rw[List.length_take];omega);obtain⟨V,hV⟩: ∃V,V=decide (gt l k∈l.take k):=⟨_,rfl⟩;have HV:=Lib.hid hV;have HA2:Hid (JG l (k+1)= !V):=Lib.hid (by rw[JG,HA.out,hV,Bool.true_and]);clear hV;go_wp2_with (first|((with_reducible apply(GD (α:=Sv) (k:=k) (j:=0) (s:=1)));infer_instance;exact rfl;infer_instance;exact rfl;exact hkl;exact Pd _ _)|((with_reducible apply NS);exact rfl;exact rfl;infer_instance;(first|(with_reducible assumption)|omega))|(refine Ja Sv 216 ?_));refine(NA (l:=l.take k) (hr:=HR.takeR inferInstance k) (gt l k) HTL.out (by omega)).mono ?_;rw[←HV.out];rintro e w2 ⟨rfl,_⟩;cases V
   case false=>
    go_wp2_with fail;exact⟨⟨k+1,by omega,by go_num,Lib.hid (by rw[HA2.out];rfl),Aa⟩,by simp[intOf];omega⟩
   case true=>
    have HF:Hid (R=false):=Lib.hid (by rw[HRE.out];exact Pc l (k+1) (by rw[HA2.out];rfl) n hlt);go_wp2_with fail;go_ret;rw[HF.out];exact⟨rfl,Aa⟩
  have hltI: ¬(k:Int)<n:=by omega
  have hkn:k=n:=by omega
  have HKN:=Lib.hid hkn;clear hkn;go_wp2_with fail;go_ret;refine⟨?_,Aa⟩;rw[HRE.out,←HKN.out,HA.out];rfl
end Go.Proofs.YtjjhceeookpieaaGreat
end
section
set_option maxRecDepth 100000
set_option maxHeartbeats 1600000
open Go Go.RowKit
namespace Go.Proofs.YtjjhceeookpieaaGreat
theorem Zn (s:Sv) (w:World):(Instr.buildSlice 216 1 #[(0, .string (Al s))]).run Tryz.prog w= .ok (.slice (some ⟨w.heap.size,0,none⟩) 1 1) (w.alloc (.cells (cellsOf [s]).toArray 9)):=by kernel_rfl
def CR (K:List Ax):List Sv:=K.map Ax.l
theorem UF (K:List Ax) (k:Nat) (h:k<K.length):CR (K.take (k+1))=CR (K.take k)++[(gt K k).l]:=by
 rw[CR,←List.take_append_getElem h,List.map_append];simp[CR,gt,List.getD_eq_getElem?_getD,h]
theorem UG {A:Option Addr} {n c:Nat} {K:List Ax} {w:World} [hr:HR w A (cellsOf K)] (hl:K.length=n) (hmax:n≤1000000):
    Calls Tryz.prog 124 #[.slice A n c] w fun e w'=>∃(A':Option Addr) (c':Nat),e= .returned (.slice A' n c')∧n≤c'∧HR w' A' (cellsOf (CR K))∧Ag Ab w w':=by
 have HL:=Lib.hid hl;have HRR:=Lib.hid hr.out;have hcell0:HO w 9 1 none 0 0 (cellsOf ([]:List Sv)):=⟨Cm.nil _ _ _⟩;go_enter Tryz.func124,Tryz.ntmps124;go_wp2_with fail;go_loopw [3,8] (fun ov iv wr=>∃(k:Nat) (A1:Option Addr) (c1:Nat),k≤n∧iv= .int .i64 (k:Int)∧ov= .slice A1 k c1∧k≤c1∧Ag Ab w wr∧HO wr 9 1 A1 k c1 (cellsOf (CR (K.take k)))∧Aj w A1) (fun _ iv _=>n -(intOf iv).toNat)
 case atStart=>exact⟨0,none,0,Nat.zero_le _,rfl,rfl,Nat.le_refl _,Aa,hcell0,Ck _⟩
 case round=>
  clear hcell0;obtain⟨k,A1,c1,hk,rfl,rfl,hkc,st,hO,hA1⟩:=hrel;have nr:Nw w wr:=⟨st.chg⟩;have hrA:HR wr A (cellsOf K):=⟨HRR.out.later st.chg⟩;by_cases hlt:k<n
  ·have hltI:(k:Int)<n:=by omega
   have hkl:k<K.length:=by rw[HL.out];exact hlt
   have hLL:K.length=n:=HL.out;have hsz:(Af.enc (gt K k)).toArray.size =5:=rfl;have hon:=AY (gt K k);have kb1:=Zn (gt K k).l;have HNX:Hid (CR (K.take (k+1))=CR (K.take k)++[(gt K k).l]):=Lib.hid (UF K k hkl);go_wp2_with (first|(refine BM 15 (kb1 _) ?_;intro zb wb _ _ _)|((with_reducible apply(Bb (α:=Sv)));exact rfl;exact rfl;infer_instance;infer_instance;exact HB.cells inferInstance;exact rfl;exact rfl;omega;(decide);(decide);intro A' c' wa _ _ _ hcap)|(refine BB 5 ?_;intro z5 wz5 _ _ _)|((with_reducible apply Ac);exact rfl;infer_instance;(first|(exact rfl)|(exact tg_hw _)|(exact tg_ctr _)|(exact tg_ecu _)|(exact srch_who)|exact srch_fd))|(refine Bt ?_;intro ws _ _)|(refine Ja Ax 64 ?_)|(refine Rk Ax 213 ?_));have hcA:Au (An A1) wb wa:=(inferInstance:Ch (An A1) wb wa).out;have nb:Nw wr wb:=inferInstance;refine⟨⟨k+1,A',c',by omega,by go_num,rfl,hcap,⟨?_⟩, ?_,GC inferInstance hA1 (Nat.le_trans st.chg.size nb.out.size)⟩,by simp[intOf];omega⟩
   ·exact(st.chg.trans nb.out (fun _ _ h=>h)).trans hcA (fun x hx ⟨ad,e,h⟩=>by have:=hA1.out ad e;omega)
   rw[HNX.out];infer_instance
  have hltI: ¬(k:Int)<n:=by omega
  have hkn:k=n:=by omega
  have HK:Hid (CR (K.take k)=CR K):=Lib.hid (by rw[List.take_of_length_le (by have:=HL.out;omega)]);subst hkn;clear hrA;go_wp2_with fail;go_ret;refine⟨A1,c1,rfl,hkc, ?_,st⟩;rw[←HK.out];exact⟨hO.out.rd⟩
end Go.Proofs.YtjjhceeookpieaaGreat
end
