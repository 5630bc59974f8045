/- UhUnD, UhRoB, UhRoC, UhRoM, UhRoD, UhRoH -/
import Derived.Test.YtjjhceeookpieaaGreatUhZ
import Derived.Test.YtjjhceeookpieaaGreatUhQmA
import Derived.Test.YtjjhceeookpieaaGreatUhWuB
section
set_option maxRecDepth 100000
set_option maxHeartbeats 1600000
open Go Go.RowKit
namespace Go.Proofs.YtjjhceeookpieaaGreat
def Dh (l:List Ak):List UInt8:=l.flatMap (·.l)
theorem Zq (a b:List Ak):Dh (a++b)=Dh a++Dh b:=by simp[Dh]
theorem WC (l:List Ak) (k:Nat) (h:k<l.length):Dh (l.take (k+1))=Dh (l.take k)++(AG l k).l :=by
 have e:l.take (k+1)=l.take k++[AG l k]:=by
  rw[List.take_add_one,List.getElem?_eq_getElem h];simp[AG,List.getD_eq_getElem?_getD,h]
 rw[e,Zq];simp[Dh]
def Du (l:List Ak) (need:Int):List UInt8:=Ae [(l.length:Int)]++Dh l++Ae [need]
theorem Np {A:Option Addr} {n c:Nat} {l:List Ak} (need:Int) {w:World} [hr:HR w A (cellsOf l)] (hl:l.length=n) (hmax:n≤1000):
    Calls Tryz.prog 93 #[.agg #[.slice A n c, .int .i64 need]] w fun e w'=>∃A' n' c',e= .returned (.slice A' n' c')∧Ag Ab w w'∧HO w' 5 1 A' n' c' (bs (Du l need))∧Aj w A'∧n'≤18+32*n:=by
 have HLL:=Lib.hid hl;have HE1:Hid ((Ae [(n:Int)]).length ≤9):=Lib.hid (Az [(n:Int)]);have HE2:Hid ((Ae [need]).length ≤9):=Lib.hid (Az [need]);have HKB:Hid (Du l need=Ae [(n:Int)]++Dh l++Ae [need]):=Lib.hid (by rw[Du,hl]);clear hl;go_enter Tryz.func93,Tryz.ntmps93;go_wp2_with (first|(refine Bv 1 ?_;intro zs wzs _ _ _)|(refine GU ?_));have hs5:HB wzs zs 30 #[.slice A n c, .int .i64 need]:=inferInstance;refine(CQ n _).mono ?_;rintro e w6 ⟨A6,n6,c6,rfl,hF⟩;have st6:Ag Ab wzs w6:=⟨hF.out.chg⟩;have n5:Nw w wzs:=inferInstance;have hA6:Aj w A6:=⟨fun ad e=>Nat.le_trans n5.out.size (hF.out.new ad e)⟩;have ho6:HO w6 5 1 A6 n6 c6 (bs (Ae [(n:Int)]++Dh (l.take 0))):=by
  have h1:=MF hF.out;rw[←Bk] at h1;simpa[Dh] using h1
 have hn6:n6≤9:=by
  have h1:=hF.out.len;rw[←Bk] at h1;have:=HE1.out;omega
 have hs6:HB w6 zs 30 #[.slice A n c, .int .i64 need]:=inferInstance;have os:As (An A6) zs:=⟨fun⟨ad,e,hk⟩=>by
  have h1:=hF.out.new ad e;have h2:=hs5.out.lt;omega⟩
 clear hF;go_wp2_with fail;go_loopw [3,4] (fun bv iv wr=>∃(k:Nat) (A1:Option Addr) (n1 c1:Nat),k≤n∧iv= .int .i64 (k:Int)∧bv= .slice A1 n1 c1∧Ag Ab w wr∧HO wr 5 1 A1 n1 c1 (bs (Ae [(n:Int)]++Dh (l.take k)))∧Aj w A1∧As (An A1) zs∧n1≤9+32*k∧HB wr zs 30 #[.slice A n c, .int .i64 need]) (fun _ iv _=>n -(intOf iv).toNat)
 case atStart=>exact⟨0,A6,n6,c6,Nat.zero_le _,rfl,rfl,Aa,ho6,hA6,os,by omega,hs6⟩
 case round=>
  clear ho6 hA6 os hn6 hs6 st6 n5 hs5;obtain⟨k,A1,n1,c1,hk,rfl,rfl,_,hO,hA1,os,hn1,hs⟩:=hrel;have st:Ag Ab w wr:=inferInstance;have n1':Nw w wr:=⟨st.chg⟩;by_cases hlt:k<n
  ·have hltI:(k:Int)<n:=by omega
   have hln:=HLL.out;have hkl:k<l.length:=by omega
   have hF:MG (k<l.length):=⟨hkl⟩;have htk:=WC l k hkl;have HTK:Hid (Ae [(n:Int)]++Dh (l.take k)++(AG l k).l =Ae [(n:Int)]++Dh (l.take (k+1))):=Lib.hid (by rw[htk,List.append_assoc]);clear htk;go_wp2_with (first|(refine GU ?_)|(refine WIH ?_)|((with_reducible apply NR);exact rfl;exact Tryz.underlying23;(kernel_rfl);infer_instance;(first|(with_reducible assumption)|omega))|(refine NO ?_;intro A' c' wa _ _ _ hcap));refine⟨⟨k+1,A',n1+32,c',by omega,by go_num,rfl,Aa, ?_,inferInstance,inferInstance,by omega,inferInstance⟩,by simp[intOf];omega⟩;rw[←HTK.out]
   infer_instance
  have hltI: ¬(k:Int)<n:=by omega
  have hkn:k=n:=by omega
  have hfin:l.take k=l:=List.take_of_length_le (by have:=HLL.out;omega);rw[hfin] at hO;clear hkn hfin;go_wp2_with (first|(refine GU ?_));refine(CQ need _).mono ?_;rintro e w7 ⟨A7,n7,c7,rfl,hF⟩;have st7:Ag Ab _ w7:=⟨hF.out.chg⟩;have hr7:HR w7 A7 (bs (Ae [need])):=⟨by rw[Bk];exact hF.out.own.rd⟩;have hl7:(Ae [need]).length =n7:=by rw[Bk];exact hF.out.len.symm
  have hn7:n7≤9:=by
   have:=HE2.out;omega
  clear hF;go_wp2_with (first|(refine NO ?_;intro A' c' wa _ _ _ hcap));go_ret;refine⟨A',n1+n7,c',rfl,Aa, ?_,inferInstance,by omega⟩;rw[HKB.out]
  infer_instance
end Go.Proofs.YtjjhceeookpieaaGreat
end
section
set_option maxRecDepth 100000
set_option maxHeartbeats 1600000
open Go Go.RowKit
namespace Go.Proofs.YtjjhceeookpieaaGreat
instance Ah5:AL Tryz.prog 229:=⟨fun _=>by kernel_rfl,fun _=>by kernel_rfl⟩
theorem AF.mono {w:World} {ys zs:List UInt8} {U V:Nat→Prop} (hy:ys=zs) (hU: ∀x,U x→V x): ∀e w',AF w ys U e w'→AF w zs V e w':=by
 rintro e w' ⟨f,caps,T,rfl,hs,hL,hT⟩;subst hy;exact⟨f,caps,T,rfl,hs,hL,fun x hx=>(hT x hx).imp id (hU x)⟩
theorem Sb {w:World} {g zl zf n c:Nat} {A B:Option Addr} {xs:List UInt8} {l:List Ak} {t1 t2:TypeId} {fx:FuncId} (hf:fx= 136) (ys:Ak→List UInt8) (U:Nat→Prop) (hw:Cz w g A xs) [h1:HB w zl t1 #[.slice B n c]] [h2:HB w zf t2 #[.func (.func fx) #[] #[]]] (hr:Rd w B (cellsOf l)) (hl:l.length=n) (hm:n≤1000000000)
    (hU: ∀x,U x→¬Wf g A x) (hUl: ∀x,U x→x<w.heap.size) (hzl: ¬Wf g A zl) (hzf: ¬Wf g A zf) (hB:Dx (Wf g A) B (cellsOf l)) (hlay: ∀x∈l,∀w1,Au (fun x=>¬U x) w w1→Calls Tryz.prog 136 #[.agg (Aw x.l)] w1 (AF w1 (ys x) U)) (hx:xs.length+(l.flatMap ys).length ≤1000000000):
    Calls Tryz.prog 239 #[.pointer (some ⟨g,0,none⟩), .pointer (some ⟨zl,0,none⟩), .pointer (some ⟨zf,0,none⟩)] w fun e w'=>e= .returned (.tuple #[])∧∃A',Cz w' g A' (xs++l.flatMap ys)∧Au (Wf g A) w w'∧Cb w A A':=by
 subst hf;have HL:=Lib.hid hl;have HLAY:=Lib.hid hlay;have HX:=Lib.hid hx;clear hlay hx;go_enter Tryz.func239,Tryz.ntmps239;go_wp2_with (first|(refine GU ?_));go_loopw [8] (fun iv wr=>∃(k:Nat) (A1:Option Addr),k≤n∧iv= .int .i64 (k:Int)∧Cz wr g A1 (xs++(l.take k).flatMap ys)∧Au (Wf g A) w wr∧Cb w A A1) (fun iv _=>n -(intOf iv).toNat)
 case atStart=>exact⟨0,A,Nat.zero_le _,rfl,by simpa using hw,Au.refl _ _,Cb.refl _ _⟩
 case round=>
  obtain⟨k,A1,hk,rfl,hW,hC,hM⟩:=hrel;have HW:=Lib.hid hW;have HM:=Lib.hid hM;clear hW hM;by_cases hlt:k<n
  ·have hltI:(k:Int)<n:=by omega
   have hkl:k<l.length:=by omega
   have hr1:HR wr B (cellsOf l):=⟨hr.chg hC hB⟩;have k2:HB wr zf t2 #[.func (.func 136) #[] #[]]:=⟨h2.out.chg hC hzf⟩;have hmem:gt l k∈l:=BD l k hkl;have HTK:Hid ((l.take (k+1)).flatMap ys=(l.take k).flatMap ys++ys (gt l k)):=Lib.hid (by
    rw[←List.take_append_getElem hkl,List.flatMap_append];simp[gt,List.getD_eq_getElem?_getD,hkl])
   have HLE:Hid (((l.take k).flatMap ys).length +(ys (gt l k)).length ≤(l.flatMap ys).length):=Lib.hid (by
    have e:l.flatMap ys=(l.take (k+1)).flatMap ys++(l.drop (k+1)).flatMap ys:=by rw[←List.flatMap_append,List.take_append_drop]
    rw[e,HTK.out,List.length_append,List.length_append];omega)
   go_wp2_with (first|(refine BB 5 ?_;intro zv wzv _ _ _)|(refine Cp ?_)|(refine GU ?_)|(refine Bt ?_;intro ws _ _)|(refine WIH ?_)|(refine WLH 23 ?_));refine(HLAY.out (gt l k) hmem _ ((hC.mono (fun x _ h h'=>hU x h' h)).trans (Aa (w0:=wr)).chg (fun _ _ h=>h.elim))).mono ?_;rintro e w5 ⟨f,caps,T,rfl,hs5,hL5,hT5⟩;have n5:Nw wr w5:=inferInstance;have hsz:=n5.out.size;obtain⟨f9,caps9,he9,hent,hrun⟩:=hL5.run;injection he9 with e1 _ e2
   injection e1 with e1
   subst e1 e2;have hTT: ∀x,Wf g A1 x→¬T x:=by
    intro x hx hTx;have hxl:=HW.out.old x hx;rcases hT5 x hTx with h|h
    ·have:=Nat.le_trans (Aa (w0:=wr)).chg.size h;omega
    rcases hx with rfl|⟨ad,e,rfl⟩
    ·exact hU _ h (.inl rfl)
    rcases HM.out with rfl|⟨ad',e',h'⟩
    ·exact hU _ h (.inr ⟨ad,e,rfl⟩)
    rw[e] at e';injection e' with e'
    subst e';have:=hUl _ h;omega
   have HRUN:=Lib.hid (hrun w5 g A1 (xs++(l.take k).flatMap ys) (Au.refl _ _) (HW.out.chg n5.out (fun _ _ h=>h)) hTT (by
    have h1:=HLE.out;have h2:=HX.out;rw[List.length_append];omega))
   clear hrun hL5 hT5;go_wp2_with fail;refine HRUN.out.mono ?_;rintro e w6 ⟨rfl,A6,hW6,hC6,hM6⟩;have h7:=En (hC.trans n5.out (fun _ _ h=>h.elim)) HM.out hC6 hM6;have HW6:=Lib.hid hW6;clear hW6 hC6 hM6;go_wp2_with fail;refine⟨⟨k+1,A6,by omega,by go_num, ?_,h7.1,h7.2⟩,by simp[intOf];omega⟩;rw[HTK.out,←List.append_assoc];exact HW6.out
  have hltI: ¬(k:Int)<n:=by omega
  have hfin:l.take k=l:=List.take_of_length_le (by have:=HL.out;omega);rw[hfin] at HW;go_wp2_with fail
  go_end0
  exact⟨rfl,A1,HW.out,hC,HM.out⟩
theorem Ud {w:World} {n c:Nat} {B:Option Addr} {l:List Ak} (ys:Ak→List UInt8) (U:Nat→Prop) (hr:Rd w B (cellsOf l)) (hl:l.length=n) (hm:n≤1000000000) (hUl: ∀x,U x→x<w.heap.size)
    (hlay: ∀x∈l,∀w1,Au (fun x=>¬U x) w w1→Calls Tryz.prog 136 #[.agg (Aw x.l)] w1 (AF w1 (ys x) U)):
    Calls Tryz.prog 217 #[.slice B n c, .func (.func 136) #[] #[]] w (AF w (l.flatMap ys) (fun x=>(cellsOf l≠[]∧An B x)∨U x)):=by
 have HLAY:=Lib.hid hlay;clear hlay;unfold AF;go_enter Tryz.func217,Tryz.ntmps217;go_wp2_with (first|(refine WBL 2 ?_;intro bl wbl _ _ _)|((with_reducible apply(Dd (dst:=some 3) (cs:=#[.func (.func 136) #[] #[]])));exact rfl;exact rfl;intro bv wbv _ _ _));go_ret;have h1:HB wbv bl 28 #[.slice B n c]:=inferInstance;have h2:HB wbv bv 229 #[.func (.func 136) #[] #[]]:=inferInstance;have hst:Ag Ab w wbv:=Aa;have hbl:w.heap.size≤bl:=Nat.le_of_eq (inferInstance:AW w bl).eq.symm;have hbv:w.heap.size≤bv:=by
  have e1:=(inferInstance:AW wbl bv).eq;have e2:=(inferInstance:Ay w wbl).out;omega
 have hr2:=hr.later hst.chg;refine⟨_,_,fun x=>x=bl∨x=bv∨(cellsOf l≠[]∧An B x)∨U x,rfl,hst,⟨fun x hx=> ?_,_,_,rfl,EI Tryz.func239 (by kernel_rfl) rfl,fun w1 g A xs hc hw hT hlen=> ?_⟩,fun x hx=> ?_⟩
 ·rcases hx with rfl|rfl|⟨hne,ad,e,hk⟩|h
  ·exact h1.out.lt
  ·exact h2.out.lt
  ·rw[←hk];exact DC hr2 hne e
  exact Nat.lt_of_lt_of_le (hUl x h) hst.chg.size
 ·have k1:HB w1 bl 28 #[.slice B n c]:=⟨h1.out.chg hc (fun hk=>hk (.inl rfl))⟩;have k2:HB w1 bv 229 #[.func (.func 136) #[] #[]]:=⟨h2.out.chg hc (fun hk=>hk (.inr (.inl rfl)))⟩;exact Sb (zl:=bl) (zf:=bv) rfl ys U hw (hr2.chg hc (fun hne ad e hk=>hk (.inr (.inr (.inl ⟨hne,ad,e,rfl⟩))))) hl hm
   (fun x hx h=>hT x h (.inr (.inr (.inr hx)))) (fun x hx=>Nat.lt_of_lt_of_le (Nat.lt_of_lt_of_le (hUl x hx) hst.chg.size) hc.size) (fun h=>hT _ h (.inl rfl)) (fun h=>hT _ h (.inr (.inl rfl))) (fun hne ad e hk=>hT _ hk (.inr (.inr (.inl ⟨hne,ad,e,rfl⟩))))
   (fun x hx w2 h=>HLAY.out x hx w2 (((hst.chg.mono (T:=fun x=>¬U x) (fun _ _ h=>h.elim)).trans (hc.mono (fun x _ h h'=>h (.inr (.inr (.inr h'))))) (fun _ _ h=>h)).trans h (fun _ _ h=>h))) (by omega)
 rcases hx with rfl|rfl|h|h
 ·exact .inl hbl
 ·exact .inl hbv
 ·exact .inr (.inl h)
 exact .inr (.inr h)
theorem Nh {w:World} {n c:Nat} {B:Option Addr} {l:List Ak} (ys:Ak→List UInt8) (U:Nat→Prop) (hr:Rd w B (cellsOf l)) (hl:l.length=n) (hm:n≤1000000000) (hUl: ∀x,U x→x<w.heap.size)
    (hlay: ∀x∈l,∀w1,Au (fun x=>¬U x) w w1→Calls Tryz.prog 136 #[.agg (Aw x.l)] w1 (AF w1 (ys x) U)):
    Calls Tryz.prog 182 #[.slice B n c, .func (.func 136) #[] #[]] w (AF w (Ae [(n:Int)]++l.flatMap ys) (fun x=>(cellsOf l≠[]∧An B x)∨U x)):=by
 have kb0:=AM (n:Int);have HLAY:=Lib.hid hlay;have HL:=Lib.hid hl;clear hlay hl;unfold AF;go_enter Tryz.func182,Tryz.ntmps182;go_wp2_with (first|(refine BM 7 (kb0 _) ?_;intro zb wb _ _ _));refine(Ci (z:=zb) (vs:=[(n:Int)]) rfl rfl (show 9*1≤1000000000 by decide)).mono ?_;rintro e w5 ⟨f5,caps5,T5,rfl,_,hL5,hT5⟩;have hzb:w.heap.size≤zb:=(Aj.monoS (w0:=w) (Aj.of_born (z:=zb) 0)).out ⟨zb,0,none⟩ rfl;go_wp2_with fail;refine(Ud (l:=l) ys U (hr.later (Aa (w0:=w)).chg) HL.out hm (fun x h=>Nat.lt_of_lt_of_le (hUl x h) (Aa (w0:=w)).chg.size) (fun x hx w1 h=>HLAY.out x hx w1 (((Aa (w0:=w)).chg.mono (fun _ _ h=>h.elim)).trans h (fun _ _ h=>h)))).mono ?_;rintro e w6 ⟨f6,caps6,T6,rfl,_,hL6,hT6⟩;have kb2:=BL f5 f6 caps5 caps6;go_wp2_with (first|(refine BM 12 (kb2 _) ?_;intro zc wb _ _ _));refine(DY (z:=zc) (hL5.later (Aa (w0:=w5)).chg (fun _ _ h=>h)) (hL6.later (Aa (w0:=w6)).chg (fun _ _ h=>h))).mono ?_;rintro e w7 ⟨f7,caps7,T7,rfl,_,hL7,hT7⟩;have hzc:w.heap.size≤zc:=(Aj.monoS (w0:=w) (Aj.of_born (z:=zc) 0)).out ⟨zc,0,none⟩ rfl;go_wp2_with fail;go_ret;refine⟨f7,caps7,T7,rfl,Aa,hL7,fun x hx=> ?_⟩;rcases hT7 x hx with h|rfl|h|h
 ·exact .inl (Nat.le_trans (Aa (w0:=w)).chg.size h)
 ·exact .inl hzc
 ·rcases hT5 x h with h|rfl
  ·exact .inl (Nat.le_trans (Aa (w0:=w)).chg.size h)
  exact .inl hzb
 rcases hT6 x h with h|h
 ·exact .inl (Nat.le_trans (Aa (w0:=w)).chg.size h)
 exact .inr h
theorem Kw (k:KR) {w:World} (hk:BN w k):
    Calls Tryz.prog 115 #[.agg #[.slice k.A k.n k.c, .int .i64 k.need]] w (AF w (Du k.l k.need) (Jw k.A k.l)):=by
 have HK:=Lib.hid hk;have HN:Hid (k.n≤1000000000):=Lib.hid (Nat.le_trans hk.le (by decide));have HKB:Hid (Du k.l k.need=Ae [(k.n:Int)]++k.l.flatMap (·.l)++Ae [k.need]):=Lib.hid (by rw[Du,hk.len];rfl);have kb0:=AM k.need;clear hk;unfold AF;go_enter Tryz.func115,Tryz.ntmps115;go_wp2_with (first|(refine Bv 1 ?_;intro zt wzt _ _ _));have hwz:=(Aa (w0:=w) (w:=wzt)).chg.size;have HKZ:Hid (BN wzt k):=Lib.hid (BN.nw HK.out);refine Ah (Ab) (by kernel_rfl) (fun wd _ _=> ?_);refine YS 0 ?_;refine WN 1 ?_;refine YS 3 ?_;refine WN 4 ?_;refine wpAnyH_ready (rs:=[2,5]) (by kernel_rfl) (by simp) (AllReadyH.cons rfl (fun K_ hK_=> ?_) (AllReadyH.cons rfl (fun K_ hK_=> ?_) AllReadyH.nil))
 focus
  go_simp;refine(Nh (l:=k.l) (fun x=>x.l) Ab (HKZ.out.rd.later (Aa (w0:=wzt)).chg) HKZ.out.len HN.out (fun _ h=>h.elim) (fun x _ w1 _=>(BV x w1).mono (fun e w' ⟨f,caps,T,h1,h2,h3,h4⟩=>⟨f,caps,T,h1,h2,h3,fun x hx=> .inl (h4 x hx)⟩))).mono ?_;rintro e w5 ⟨f5,caps5,T5,rfl,_,hL5,hT5⟩;refine Yz hK_ ?_;clear hK_ K_;refine Yh 5 fun K_ hK_=> ?_
  (first|(refine BM 8 (AM _ _) ?_;intro zb wb _ _ _)|(refine BM 10 (BL _ _ _ _ _) ?_;intro zc wb _ _ _))
  refine Yn hK_ ?_;clear hK_ K_;refine Yg 6 fun K_ hK_=> ?_
  go_simp;refine(Ci (z:=zb) (vs:=[k.need]) rfl rfl (show 9*1≤1000000000 by decide)).mono ?_;rintro e w6 ⟨f6,caps6,T6,rfl,_,hL6,hT6⟩;have hzb:w.heap.size≤zb:=(Aj.monoS (w0:=w) (Aj.of_born (z:=zb) 0)).out ⟨zb,0,none⟩ rfl;refine Yz hK_ ?_;clear hK_ K_;refine Yh 7 fun K_ hK_=> ?_
  (first|(refine BM 8 (AM _ _) ?_;intro zb wb _ _ _)|(refine BM 10 (BL _ _ _ _ _) ?_;intro zc wb _ _ _))
  refine Yn hK_ ?_;clear hK_ K_;refine Yg 8 fun K_ hK_=> ?_
  go_simp;refine(DY (z:=zc) (hL5.later (Aa (w0:=w5)).chg (fun _ _ h=>h)) (hL6.later (Aa (w0:=w6)).chg (fun _ _ h=>h))).mono ?_;rintro e w7 ⟨f7,caps7,T7,rfl,_,hL7,hT7⟩;have hzc:w.heap.size≤zc:=(Aj.monoS (w0:=w) (Aj.of_born (z:=zc) 0)).out ⟨zc,0,none⟩ rfl;refine Yz hK_ ?_;clear hK_ K_;refine YS 9 ?_;refine Yd ?_
 rotate_left 1
 focus
  refine Yq ?_
  (first|(refine BM 8 (AM _ _) ?_;intro zb wb _ _ _)|(refine BM 10 (BL _ _ _ _ _) ?_;intro zc wb _ _ _))
  refine Yn hK_ ?_;clear hK_ K_;refine Yg 2 fun K_ hK_=> ?_
  go_simp;refine(Nh (l:=k.l) (fun x=>x.l) Ab (HKZ.out.rd.later (Aa (w0:=wzt)).chg) HKZ.out.len HN.out (fun _ h=>h.elim) (fun x _ w1 _=>(BV x w1).mono (fun e w' ⟨f,caps,T,h1,h2,h3,h4⟩=>⟨f,caps,T,h1,h2,h3,fun x hx=> .inl (h4 x hx)⟩))).mono ?_;rintro e w5 ⟨f5,caps5,T5,rfl,_,hL5,hT5⟩;refine Yz hK_ ?_;clear hK_ K_;refine Yg 6 fun K_ hK_=> ?_
  go_simp;refine(Ci (z:=zb) (vs:=[k.need]) rfl rfl (show 9*1≤1000000000 by decide)).mono ?_;rintro e w6 ⟨f6,caps6,T6,rfl,_,hL6,hT6⟩;have hzb:w.heap.size≤zb:=(Aj.monoS (w0:=w) (Aj.of_born (z:=zb) 0)).out ⟨zb,0,none⟩ rfl;refine Yz hK_ ?_;clear hK_ K_;refine Yh 7 fun K_ hK_=> ?_
  (first|(refine BM 8 (AM _ _) ?_;intro zb wb _ _ _)|(refine BM 10 (BL _ _ _ _ _) ?_;intro zc wb _ _ _))
  refine Yn hK_ ?_;clear hK_ K_;refine Yg 8 fun K_ hK_=> ?_
  go_simp;refine(DY (z:=zc) (hL5.later (Aa (w0:=w5)).chg (fun _ _ h=>h)) (hL6.later (Aa (w0:=w6)).chg (fun _ _ h=>h))).mono ?_;rintro e w7 ⟨f7,caps7,T7,rfl,_,hL7,hT7⟩;have hzc:w.heap.size≤zc:=(Aj.monoS (w0:=w) (Aj.of_born (z:=zc) 0)).out ⟨zc,0,none⟩ rfl;refine Yz hK_ ?_;clear hK_ K_;refine YS 9 ?_;refine Yd ?_
 rotate_left 1
 all_goals
  rw[←HKB.out] at hL7;go_wp2_with fail;go_ret;refine⟨f7,caps7,rfl,Aa,T7,hL7,fun x hx=> ?_⟩;rcases hT7 x hx with h|rfl|h|h
  ·exact .inl (Nat.le_trans (Aa (w0:=w)).chg.size h)
  ·exact .inl hzc
  ·rcases hT5 x h with h|h|h
   ·exact .inl (Nat.le_trans (Aa (w0:=w)).chg.size h)
   ·exact .inr h
   exact h.elim
  rcases hT6 x h with h|rfl
  ·exact .inl (Nat.le_trans (Aa (w0:=w)).chg.size h)
  exact .inl hzb
end Go.Proofs.YtjjhceeookpieaaGreat
end
section
set_option maxRecDepth 100000
set_option maxHeartbeats 1600000
open Go Go.RowKit
namespace Go.Proofs.YtjjhceeookpieaaGreat
instance Agf:AL Tryz.prog 205:=⟨fun _=>by kernel_rfl,fun _=>by kernel_rfl⟩
instance Ah6:AL Tryz.prog 207:=⟨fun _=>by kernel_rfl,fun _=>by kernel_rfl⟩
instance Aib:Eb Tryz.prog 30 #[.slice none 0 0, .int .i64 0]:=⟨.agg #[.slice none 0 0, .int .i64 0],fun _=>by kernel_rfl,rfl⟩
theorem Sc {w:World} {g zl zf n c:Nat} {A B:Option Addr} {xs:List UInt8} {l:List KR} {t1 t2:TypeId} {fx:FuncId} (hf:fx= 115) (ys:KR→List UInt8) (U:Nat→Prop) (hw:Cz w g A xs) [h1:HB w zl t1 #[.slice B n c]] [h2:HB w zf t2 #[.func (.func fx) #[] #[]]] (hr:Rd w B (cellsOf l)) (hl:l.length=n) (hm:n≤1000000000)
    (hU: ∀x,U x→¬Wf g A x) (hUl: ∀x,U x→x<w.heap.size) (hzl: ¬Wf g A zl) (hzf: ¬Wf g A zf) (hB:Dx (Wf g A) B (cellsOf l)) (hlay: ∀x∈l,∀w1,Au (fun x=>¬U x) w w1→Calls Tryz.prog 115 #[.agg (Af.enc x).toArray] w1 (AF w1 (ys x) U)) (hx:xs.length+(l.flatMap ys).length ≤1000000000):
    Calls Tryz.prog 181 #[.pointer (some ⟨g,0,none⟩), .pointer (some ⟨zl,0,none⟩), .pointer (some ⟨zf,0,none⟩)] w fun e w'=>e= .returned (.tuple #[])∧∃A',Cz w' g A' (xs++l.flatMap ys)∧Au (Wf g A) w w'∧Cb w A A':=by
 subst hf;have HL:=Lib.hid hl;have HLAY:=Lib.hid hlay;have HX:=Lib.hid hx;clear hlay hx;go_enter Tryz.func181,Tryz.ntmps181;go_wp2_with (first|((with_reducible apply Ac);exact rfl;infer_instance;(first|(exact rfl)|(exact tg_hw _)|(exact tg_ctr _)|(exact tg_ecu _)|(exact srch_who)|exact srch_fd)));go_loopw [8] (fun iv wr=>∃(k:Nat) (A1:Option Addr),k≤n∧iv= .int .i64 (k:Int)∧Cz wr g A1 (xs++(l.take k).flatMap ys)∧Au (Wf g A) w wr∧Cb w A A1) (fun iv _=>n -(intOf iv).toNat)
 case atStart=>exact⟨0,A,Nat.zero_le _,rfl,by simpa using hw,Au.refl _ _,Cb.refl _ _⟩
 case round=>
  obtain⟨k,A1,hk,rfl,hW,hC,hM⟩:=hrel;have HW:=Lib.hid hW;have HM:=Lib.hid hM;clear hW hM;by_cases hlt:k<n
  ·have hltI:(k:Int)<n:=by omega
   have hkl:k<l.length:=by omega
   have hr1:HR wr B (cellsOf l):=⟨hr.chg hC hB⟩;have k2:HB wr zf t2 #[.func (.func 115) #[] #[]]:=⟨h2.out.chg hC hzf⟩;have hmem:gt l k∈l:=BD l k hkl;have HTK:Hid ((l.take (k+1)).flatMap ys=(l.take k).flatMap ys++ys (gt l k)):=Lib.hid (by
    rw[←List.take_append_getElem hkl,List.flatMap_append];simp[gt,List.getD_eq_getElem?_getD,hkl])
   have HLE:Hid (((l.take k).flatMap ys).length +(ys (gt l k)).length ≤(l.flatMap ys).length):=Lib.hid (by
    have e:l.flatMap ys=(l.take (k+1)).flatMap ys++(l.drop (k+1)).flatMap ys:=by rw[←List.flatMap_append,List.take_append_drop]
    rw[e,HTK.out,List.length_append,List.length_append];omega)
   go_wp2_with (first|(refine BB 5 ?_;intro zv wzv _ _ _)|(refine Cp ?_)|((with_reducible apply Ac);exact rfl;infer_instance;(first|(exact rfl)|(exact tg_hw _)|(exact tg_ctr _)|(exact tg_ecu _)|(exact srch_who)|exact srch_fd))|(refine Bt ?_;intro ws _ _)|(refine Ja KR 204 ?_)|(refine Rk KR 30 ?_));refine(HLAY.out (gt l k) hmem _ ((hC.mono (fun x _ h h'=>hU x h' h)).trans (Aa (w0:=wr)).chg (fun _ _ h=>h.elim))).mono ?_;rintro e w5 ⟨f,caps,T,rfl,hs5,hL5,hT5⟩;have n5:Nw wr w5:=inferInstance;have hsz:=n5.out.size;obtain⟨f9,caps9,he9,hent,hrun⟩:=hL5.run;injection he9 with e1 _ e2
   injection e1 with e1
   subst e1 e2;have hTT: ∀x,Wf g A1 x→¬T x:=by
    intro x hx hTx;have hxl:=HW.out.old x hx;rcases hT5 x hTx with h|h
    ·have:=Nat.le_trans (Aa (w0:=wr)).chg.size h;omega
    rcases hx with rfl|⟨ad,e,rfl⟩
    ·exact hU _ h (.inl rfl)
    rcases HM.out with rfl|⟨ad',e',h'⟩
    ·exact hU _ h (.inr ⟨ad,e,rfl⟩)
    rw[e] at e';injection e' with e'
    subst e';have:=hUl _ h;omega
   have HRUN:=Lib.hid (hrun w5 g A1 (xs++(l.take k).flatMap ys) (Au.refl _ _) (HW.out.chg n5.out (fun _ _ h=>h)) hTT (by
    have h1:=HLE.out;have h2:=HX.out;rw[List.length_append];omega))
   clear hrun hL5 hT5;go_wp2_with fail;refine HRUN.out.mono ?_;rintro e w6 ⟨rfl,A6,hW6,hC6,hM6⟩;have h7:=En (hC.trans n5.out (fun _ _ h=>h.elim)) HM.out hC6 hM6;have HW6:=Lib.hid hW6;clear hW6 hC6 hM6;go_wp2_with fail;refine⟨⟨k+1,A6,by omega,by go_num, ?_,h7.1,h7.2⟩,by simp[intOf];omega⟩;rw[HTK.out,←List.append_assoc];exact HW6.out
  have hltI: ¬(k:Int)<n:=by omega
  have hfin:l.take k=l:=List.take_of_length_le (by have:=HL.out;omega);rw[hfin] at HW;go_wp2_with fail
  go_end0
  exact⟨rfl,A1,HW.out,hC,HM.out⟩
theorem Ue {w:World} {n c:Nat} {B:Option Addr} {l:List KR} (ys:KR→List UInt8) (U:Nat→Prop) (hr:Rd w B (cellsOf l)) (hl:l.length=n) (hm:n≤1000000000) (hUl: ∀x,U x→x<w.heap.size)
    (hlay: ∀x∈l,∀w1,Au (fun x=>¬U x) w w1→Calls Tryz.prog 115 #[.agg (Af.enc x).toArray] w1 (AF w1 (ys x) U)):
    Calls Tryz.prog 114 #[.slice B n c, .func (.func 115) #[] #[]] w (AF w (l.flatMap ys) (fun x=>(cellsOf l≠[]∧An B x)∨U x)):=by
 have HLAY:=Lib.hid hlay;clear hlay;unfold AF;go_enter Tryz.func114,Tryz.ntmps114;go_wp2_with (first|(refine WBL 2 ?_;intro bl wbl _ _ _)|((with_reducible apply(Dd (dst:=some 3) (cs:=#[.func (.func 115) #[] #[]])));exact rfl;exact rfl;intro bv wbv _ _ _));go_ret;have h1:HB wbv bl 204 #[.slice B n c]:=inferInstance;have h2:HB wbv bv 207 #[.func (.func 115) #[] #[]]:=inferInstance;have hst:Ag Ab w wbv:=Aa;have hbl:w.heap.size≤bl:=Nat.le_of_eq (inferInstance:AW w bl).eq.symm;have hbv:w.heap.size≤bv:=by
  have e1:=(inferInstance:AW wbl bv).eq;have e2:=(inferInstance:Ay w wbl).out;omega
 have hr2:=hr.later hst.chg;refine⟨_,_,fun x=>x=bl∨x=bv∨(cellsOf l≠[]∧An B x)∨U x,rfl,hst,⟨fun x hx=> ?_,_,_,rfl,EI Tryz.func181 (by kernel_rfl) rfl,fun w1 g A xs hc hw hT hlen=> ?_⟩,fun x hx=> ?_⟩
 ·rcases hx with rfl|rfl|⟨hne,ad,e,hk⟩|h
  ·exact h1.out.lt
  ·exact h2.out.lt
  ·rw[←hk];exact DC hr2 hne e
  exact Nat.lt_of_lt_of_le (hUl x h) hst.chg.size
 ·have k1:HB w1 bl 204 #[.slice B n c]:=⟨h1.out.chg hc (fun hk=>hk (.inl rfl))⟩;have k2:HB w1 bv 207 #[.func (.func 115) #[] #[]]:=⟨h2.out.chg hc (fun hk=>hk (.inr (.inl rfl)))⟩;exact Sc (zl:=bl) (zf:=bv) rfl ys U hw (hr2.chg hc (fun hne ad e hk=>hk (.inr (.inr (.inl ⟨hne,ad,e,rfl⟩))))) hl hm
   (fun x hx h=>hT x h (.inr (.inr (.inr hx)))) (fun x hx=>Nat.lt_of_lt_of_le (Nat.lt_of_lt_of_le (hUl x hx) hst.chg.size) hc.size) (fun h=>hT _ h (.inl rfl)) (fun h=>hT _ h (.inr (.inl rfl))) (fun hne ad e hk=>hT _ hk (.inr (.inr (.inl ⟨hne,ad,e,rfl⟩))))
   (fun x hx w2 h=>HLAY.out x hx w2 (((hst.chg.mono (T:=fun x=>¬U x) (fun _ _ h=>h.elim)).trans (hc.mono (fun x _ h h'=>h (.inr (.inr (.inr h'))))) (fun _ _ h=>h)).trans h (fun _ _ h=>h))) (by omega)
 rcases hx with rfl|rfl|h|h
 ·exact .inl hbl
 ·exact .inl hbv
 ·exact .inr (.inl h)
 exact .inr (.inr h)
def Afe (K:List KR):Nat→Prop:=fun x=>∃k∈K,Jw k.A k.l x
def EO (k:KR):Bool:=Nf k.l k.need
theorem PS (k:KR) {w:World} {zi:Nat} {t:TypeId} [hz:HB w zi t #[.func (.func 113) #[] #[]]] (hk:BN w k):
    Calls Tryz.prog 179 #[.agg (Af.enc k).toArray, .pointer (some ⟨zi,0,none⟩)] w fun e w'=>e= .returned (.bool (!EO k))∧Ag Ab w w':=by
 have HK:=Lib.hid hk;clear hk;have hsz:(Af.enc k).toArray.size =2:=rfl;go_enter Tryz.func179,Tryz.ntmps179;go_wp2_with (first|(refine Bv 2 ?_;intro zk wzk _ _ _)|(refine Cp ?_)|((with_reducible apply Ac);exact rfl;infer_instance;(first|(exact rfl)|(exact tg_hw _)|(exact tg_ctr _)|(exact tg_ecu _)|(exact srch_who)|exact srch_fd)));have hr5:HR wzk k.A (cellsOf k.l):=⟨HK.out.rd.later (Aa (w0:=w)).chg⟩;refine(Hx (l:=k.l) k.need HK.out.len HK.out.cap (Nat.le_trans HK.out.le (by decide))).mono ?_;rintro e w5 ⟨rfl,_⟩;go_wp2_with fail;go_ret;exact⟨rfl,Aa⟩
theorem Wc {A:Option Addr} {n c zi:Nat} {t:TypeId} {K:List KR} {w:World} [hr:HR w A (cellsOf K)] [hz:HB w zi t #[.func (.func 113) #[] #[]]] (hK: ∀k∈K,BN w k) (hl:K.length=n) (hmax:n≤1000000000):
    Calls Tryz.prog 215 #[.slice A n c, .func (.func 179) #[] #[.pointer (some ⟨zi,0,none⟩)]] w fun e w'=>∃r:Int,e= .returned (.int .i64 r)∧(0≤r↔K.any (fun k=>!EO k)=true)∧Ag Ab w w':=by
 have HL:=Lib.hid hl;have HMI:=Lib.hid hK;obtain⟨R,hR⟩: ∃R,R=K.any (fun k=>!EO k):=⟨_,rfl⟩;rw[←hR];have HRR:=Lib.hid hR;clear hK hR;go_enter Tryz.func215,Tryz.ntmps215;go_wp2_with fail;go_loopw [8] (fun kv wr=>∃k:Nat,k≤n∧kv= .int .i64 (k:Int)∧Hid ((K.take k).any (fun k=>!EO k)=false)∧Ag Ab w wr) (fun kv _=>n -(intOf kv).toNat)
 case atStart=>exact⟨0,Nat.zero_le _,rfl,Lib.hid rfl,Aa⟩
 case round=>
  obtain⟨k,hk,rfl,HJ,_⟩:=hrel;by_cases hlt:k<n
  ·have hltI:(k:Int)<n:=by omega
   have hkl:k<K.length:=by omega
   have hmem:gt K k∈K:=BD K k hkl;have HMK:Hid (BN w (gt K k)):=Lib.hid (HMI.out _ hmem);have hts:(K.take (k+1)).any (fun k=>!EO k)=((K.take k).any (fun k=>!EO k)||!EO (gt K k)):=by
    rw[←List.take_append_getElem hkl,List.any_append];simp[gt,List.getD_eq_getElem?_getD,hkl]
   obtain⟨V,hV⟩: ∃V,V=EO (gt K k):=⟨_,rfl⟩;rw[HJ.out,Bool.false_or,←hV] at hts;have HV:=Lib.hid hV;have HTS:=Lib.hid hts;have HAL:Hid (V=false→R=true):=Lib.hid (fun h=>by rw[HRR.out];exact List.any_eq_true.2 ⟨_,hmem,by rw[←hV,h];rfl⟩);clear hmem hts hV;go_wp2_with (first|(refine Ja KR 204 ?_)|(refine Rk KR 30 ?_));refine(PS (gt K k) (BN.nw HMK.out)).mono ?_;rw[←HV.out];rintro e w1 ⟨rfl,_⟩;cases V with
   |false=>
    have HAR:Hid (R=true):=Lib.hid (HAL.out rfl);clear HAL;go_wp2_with fail;go_ret;exact⟨_,rfl,⟨fun _=>HAR.out,fun _=>by omega⟩,Aa⟩
   |true=>
    go_wp2_with fail;exact⟨⟨k+1,by omega,by go_num,HTS,Aa⟩,by simp[intOf];omega⟩
  have hltI: ¬(k:Int)<n:=by omega
  have HF:Hid (R=false):=Lib.hid (by
   have h1:=HJ.out;rw[HRR.out];rwa[List.take_of_length_le (by omega)] at h1)
  go_wp2_with fail;go_ret;refine⟨_,rfl,⟨fun h=>by simp at h,fun h=> ?_⟩,Aa⟩;rw[HF.out] at h;cases h
theorem Uf {A:Option Addr} {n c zi:Nat} {t:TypeId} {K:List KR} {w:World} [hr:HR w A (cellsOf K)] [hz:HB w zi t #[.func (.func 113) #[] #[]]] (hK: ∀k∈K,BN w k) (hl:K.length=n) (hmax:n≤1000000000):
    Calls Tryz.prog 178 #[.slice A n c, .func (.func 179) #[] #[.pointer (some ⟨zi,0,none⟩)]] w fun e w'=>e= .returned (.bool (K.any (fun k=>!EO k)))∧Ag Ab w w':=by
 have HMI:=Lib.hid hK;clear hK;go_enter Tryz.func178,Tryz.ntmps178;go_wp2_with fail;refine(Wc (K:=K) (fun r hr=>HMI.out r hr) hl hmax).mono ?_;rintro e w1 ⟨r,rfl,hr,_⟩;have hd:decide (0≤r)=K.any (fun k=>!EO k):=by rw[Bool.eq_iff_iff,decide_eq_true_eq];exact hr
 have HD:=Lib.hid hd;clear hd hr;go_wp2_with fail;go_ret;refine⟨?_,Aa⟩;rw[←HD.out];rfl
theorem Wd {A:Option Addr} {n c:Nat} {K:List KR} {w:World} [hr:HR w A (cellsOf K)] (hK: ∀k∈K,BN w k) (hl:K.length=n) (hmax:n≤1000000000):
    Calls Tryz.prog 112 #[.slice A n c, .func (.func 113) #[] #[]] w fun e w'=>e= .returned (.bool (K.all EO))∧Ag Ab w w':=by
 have HMI:=Lib.hid hK;have hd:(!K.any (fun k=>!EO k))=K.all EO:=by simp[List.all_eq_not_any_not]
 have HD:=Lib.hid hd;clear hK hd;go_enter Tryz.func112,Tryz.ntmps112;go_wp2_with (first|((with_reducible apply(Dd (dst:=some 3) (cs:=#[.func (.func 113) #[] #[]])));exact rfl;exact rfl;intro bl wbl _ _ _));refine(Uf (K:=K) (fun k hk=>BN.nw (w0:=w) (HMI.out k hk)) hl hmax).mono ?_;rintro e w5 ⟨rfl,_⟩;go_wp2_with fail;go_ret;refine⟨?_,Aa⟩;rw[←HD.out];rfl
def Dc (v e:Int) (K:List KR):Bool:=BE v&&Ca e&&K.all EO
theorem Lz (v e0:Int) (K:List KR) (h4:K.length=4) {w:World} (hK: ∀k∈K,BN w k):
    Calls Tryz.prog 60 #[.agg (BA v e0 K).toArray] w fun e w'=>e= .returned (.bool (Dc v e0 K))∧Ag Ab w w':=by
 have HK:=Lib.hid hK;have H4:=Lib.hid h4;have hlen:=BG v e0 K h4;have hone:=Bq v e0 K;clear hK h4;unfold Dc;rcases h1:BE v with _|_
 ·rw[Bool.false_and,Bool.false_and];go_enter Tryz.func60,Tryz.ntmps60;go_wp2_with (first|(refine Bv 1 ?_;intro zt wzt _ _ _)|((with_reducible apply Ac);exact rfl;infer_instance;(first|(exact rfl)|(exact tg_hw _)|(exact tg_ctr _)|(exact tg_ecu _)|(exact srch_who)|exact srch_fd)));refine(Bh v _).mono ?_;rw[h1];rintro e w5 ⟨rfl,_⟩;go_wp2_with (first|go_skip);go_ret;exact⟨rfl,Aa⟩
 rcases h2:Ca e0 with _|_
 ·rw[Bool.true_and,Bool.false_and];go_enter Tryz.func60,Tryz.ntmps60;go_wp2_with (first|(refine Bv 1 ?_;intro zt wzt _ _ _)|((with_reducible apply Ac);exact rfl;infer_instance;(first|(exact rfl)|(exact tg_hw _)|(exact tg_ctr _)|(exact tg_ecu _)|(exact srch_who)|exact srch_fd)));refine(Bh v _).mono ?_;rw[h1];rintro e w5 ⟨rfl,_⟩;go_wp2_with (first|(refine Ct ?_)|(refine CG ?_)|((with_reducible apply Ac);exact rfl;infer_instance;(first|(exact rfl)|(exact tg_hw _)|(exact tg_ctr _)|(exact tg_ecu _)|(exact srch_who)|exact srch_fd)));refine(Cj e0 _).mono ?_;rw[h2];rintro e w6 ⟨rfl,_⟩;go_wp2_with (first|go_skip);go_ret;exact⟨rfl,Aa⟩
 rw[Bool.true_and,Bool.true_and];go_enter Tryz.func60,Tryz.ntmps60;go_wp2_with (first|(refine Bv 1 ?_;intro zt wzt _ _ _)|((with_reducible apply Ac);exact rfl;infer_instance;(first|(exact rfl)|(exact tg_hw _)|(exact tg_ctr _)|(exact tg_ecu _)|(exact srch_who)|exact srch_fd)));refine(Bh v _).mono ?_;rw[h1];rintro e w5 ⟨rfl,_⟩;go_wp2_with (first|(refine Ct ?_)|(refine CG ?_)|((with_reducible apply Ac);exact rfl;infer_instance;(first|(exact rfl)|(exact tg_hw _)|(exact tg_ctr _)|(exact tg_ecu _)|(exact srch_who)|exact srch_fd)));refine(Cj e0 _).mono ?_;rw[h2];rintro e w6 ⟨rfl,_⟩;have ht6:HB w6 zt 33 (BA v e0 K).toArray :=inferInstance;have hr6:HR w6 (some ⟨zt,2,none⟩) (cellsOf K):=Mp ht6;go_wp2_with (first|((with_reducible apply Uc);exact rfl;exact Tryz.underlying31;(kernel_rfl))|((with_reducible apply(Ef (op:= .slice _ _ none none none)));exact rfl)|(refine CG ?_));refine(Wd (K:=K) (fun k hk=>BN.nw (w0:=w) (HK.out k hk)) H4.out (by decide)).mono ?_;rintro e w7 ⟨rfl,_⟩;go_wp2_with fail;go_ret;exact⟨rfl,Aa⟩
def CO (K:List KR):List UInt8:=K.flatMap fun k=>Du k.l k.need
theorem PU (v e0:Int) (K:List KR) (h4:K.length=4) {w:World} (hK: ∀k∈K,BN w k):
    Calls Tryz.prog 61 #[.agg (BA v e0 K).toArray] w (AF w (Ae [v,e0]++CO K) (Afe K)):=by
 have HK:=Lib.hid hK;have H4:=Lib.hid h4;have hlen:=BG v e0 K h4;have hone:=Bq v e0 K;clear hK h4;unfold AF;go_enter Tryz.func61,Tryz.ntmps61;go_wp2_with (first|(refine Bv 1 ?_;intro zt wzt _ _ _));have hzt:w.heap.size≤zt:=Nat.le_of_eq (inferInstance:AW w zt).eq.symm;have hrt:Rd wzt (some ⟨zt,2,none⟩) (cellsOf K):=(Mp (inferInstance:HB wzt zt 33 (BA v e0 K).toArray)).out;have HRT:=Lib.hid hrt;clear hrt;refine Ah (Ab) (by kernel_rfl) (fun wd _ _=> ?_);refine YS 0 ?_;refine' tk 1 _ rfl (by kernel_rfl) (by kernel_rfl) (by kernel_rfl) (fun _ _ _ h=>h) (yo (by rfl) fun w' _=> ?_) inferInstance ?_;rotate_left
 ·((apply Ai);exact rfl;infer_instance;infer_instance;(first|(exact rfl)|(exact tg_hw _)|(exact tg_ctr _)|(exact tg_ecu _)|(exact srch_who)|exact srch_fd))
 try simp only[Act.put,sA,sB,sC]
 refine YS 2 ?_;refine' tk 3 _ rfl (by kernel_rfl) (by kernel_rfl) (by kernel_rfl) (fun _ _ _ h=>h) (yo (by rfl) fun w' _=> ?_) inferInstance ?_;rotate_left
 ·((apply Ai);exact rfl;infer_instance;infer_instance;(first|(exact rfl)|(exact tg_hw _)|(exact tg_ctr _)|(exact tg_ecu _)|(exact srch_who)|exact srch_fd))
 try simp only[Act.put,sA,sB,sC]
 refine YS 6 ?_;refine' tk 7 _ rfl (by kernel_rfl) (by kernel_rfl) (by kernel_rfl) (fun _ _ _ h=>h) (yo (by rfl) fun w' _=> ?_) inferInstance ?_;rotate_left
 ·((apply ON);exact rfl;exact Tryz.underlying31;(kernel_rfl))
 try simp only[Act.put,sA,sB,sC]
 refine Yh 4 fun K_ hK_=> ?_
 (first|(refine BM 7 (GR _ _ _) ?_;intro zb wb _ _ _)|(refine BM 12 (BL _ _ _ _ _) ?_;intro zc wb _ _ _))
 refine Yn hK_ ?_;clear hK_ K_;refine Yg 5 fun K_ hK_=> ?_
 go_simp;refine(Ci (z:=zb) (vs:=[v,e0]) rfl rfl (show 9*2≤1000000000 by decide)).mono ?_;rintro e w5 ⟨f5,caps5,T5,rfl,_,hL5,hT5⟩;have hzb:w.heap.size≤zb:=(Aj.monoS (w0:=w) (Aj.of_born (z:=zb) 0)).out ⟨zb,0,none⟩ rfl;refine Yz hK_ ?_;clear hK_ K_;refine Yg 8 fun K_ hK_=> ?_
 go_simp;refine(Ue (l:=K) (fun k=>Du k.l k.need) (Afe K) (HRT.out.later (Aa (w0:=wzt)).chg) H4.out (by decide) (fun x ⟨k,hk,hx⟩=>Nat.lt_of_lt_of_le ((HK.out k hk).low x hx) (Aa (w0:=w)).chg.size) (fun k hk w1 hc=>(Kw k ((BN.nw (w0:=w) (HK.out k hk)).chg hc (fun x hx h=>h ⟨k,hk,hx⟩))).mono (AF.mono rfl (fun x hx=>⟨k,hk,hx⟩)))).mono ?_;rintro e w6 ⟨f6,caps6,T6,rfl,_,hL6,hT6⟩;refine Yz hK_ ?_;clear hK_ K_;refine Yh 9 fun K_ hK_=> ?_
 (first|(refine BM 7 (GR _ _ _) ?_;intro zb wb _ _ _)|(refine BM 12 (BL _ _ _ _ _) ?_;intro zc wb _ _ _))
 refine Yn hK_ ?_;clear hK_ K_;refine Yg 10 fun K_ hK_=> ?_
 go_simp;refine(DY (z:=zc) (hL5.later (Aa (w0:=w5)).chg (fun _ _ h=>h)) (hL6.later (Aa (w0:=w6)).chg (fun _ _ h=>h))).mono ?_;rintro e w7 ⟨f7,caps7,T7,rfl,_,hL7,hT7⟩;have hzc:w.heap.size≤zc:=(Aj.monoS (w0:=w) (Aj.of_born (z:=zc) 0)).out ⟨zc,0,none⟩ rfl;refine Yz hK_ ?_;clear hK_ K_;refine YS 11 ?_;refine Yd ?_
 all_goals
  go_wp2_with fail;go_ret;refine⟨f7,caps7,rfl,Aa,T7,hL7,fun x hx=> ?_⟩;rcases hT7 x hx with h|rfl|h|h
  ·exact .inl (Nat.le_trans (Aa (w0:=w)).chg.size h)
  ·exact .inl hzc
  ·rcases hT5 x h with h|rfl
   ·exact .inl (Nat.le_trans (Aa (w0:=w)).chg.size h)
   exact .inl hzb
  rcases hT6 x h with h|⟨_,ad,e,hk⟩|h
  ·exact .inl (Nat.le_trans (Aa (w0:=w)).chg.size h)
  ·injection e with e
   subst e;exact .inl (Nat.le_trans hzt (Nat.le_of_eq hk))
  exact .inr h
end Go.Proofs.YtjjhceeookpieaaGreat
end
section
open Go Go.RowKit
namespace Go.Proofs.YtjjhceeookpieaaGreat
def hS (s:RS):Nat→RS
 |0=>s
 |k+1=>((hS s k).raw 32).2
def hN (s:RS):Nat→List Ak
 |0=>[]
 |k+1=>hN s k++[(hS s k).hsh]
theorem Sd (s:RS): ∀k,(hN s k).length =k
 |0=>rfl
 |k+1=>by rw[hN,List.length_append,Sd s k];rfl
theorem QR (s:RS): ∀k,(hS s k).b.length ≤s.b.length
 |0=>Nat.le_refl _
 |k+1=>Nat.le_trans ((hS s k).raw_l 32) (QR s k)
theorem Wg (l:List Ak) (h:Ak):Dh (l++[h])=Dh l++h.l:=by simp[Dh]
theorem Xh (s:RS): ∀k,(hS s k).e =false→s.e=false∧s.b=Dh (hN s k)++(hS s k).b
 |0,h=>⟨h,rfl⟩
 |k+1,h=>by
  obtain⟨h1,h2⟩:=LZ (s:=hS s k) h;obtain⟨h3,h4⟩:=Xh s k h1;refine⟨h3, ?_⟩;rw[hN,Wg,List.append_assoc];show s.b=Dh (hN s k)++((hS s k).hsh.l ++((hS s k).raw 32).2.b);rw[←h2];exact h4
theorem Xi (s:RS) (j:Nat): ∀k,(hS s k).e =false→j≤k→(hS s j).e =false
 |0,h,hj=>by
  obtain rfl:j=0:=by omega
  exact h
 |k+1,h,hj=>by
  by_cases e:j=k+1
  ·subst e;exact h
  exact Xi s j k (LZ (s:=hS s k) h).1 (by omega)
def kL (s:RS):List Ak:=if 4<s.num.1 then[] else hN s.num.2 s.num.1
def kM (s:RS):RS:=if 4<s.num.1 then RS.bad else hS s.num.2 s.num.1
def kD (s:RS):Nat:=(kM s).num.1
def kR (s:RS):RS:=(kM s).num.2
theorem Aic (s:RS):(kM s).b.length ≤s.b.length:=by
 unfold kM;split
 ·exact Nat.zero_le _
 exact Nat.le_trans (QR _ _) (RS.num_le s)
theorem Aid (s:RS):(kR s).b.length ≤s.b.length:=Nat.le_trans (RS.num_le _) (Aic s)
def Ny (s:RS) (l:List Ak) (need:Nat) (s':RS):Prop:=∃j,j≤5∧j≤s.num.1∧(j=s.num.1∨j=5∨(hS s.num.2 j).e =true)∧l=hN s.num.2 j∧need=(hS s.num.2 j).num.1 ∧s'=(hS s.num.2 j).num.2
theorem Ny.same {s s':RS} {l:List Ak} {need:Nat} (h:Ny s l need s') (he:s'.e=false) (hl:l.length≤4):l=kL s∧need=kD s∧s'=kR s:=by
 obtain⟨j,h5,hn,hj,rfl,rfl,rfl⟩:=h;have h1:=(Cs he).1;rw[Sd] at hl;have e:j=s.num.1:=by
  rcases hj with h|h|h
  ·exact h
  ·omega
  rw[h1] at h;cases h
 have h4: ¬4<s.num.1:=by omega
 rw[kL,kD,kR,kM,if_neg h4,if_neg h4,←e];exact⟨rfl,rfl,rfl⟩
theorem Aie {s:RS} (h:(kR s).e =false):(kM s).e =false:=(Cs h).1
theorem Aif {s:RS} (h:(kM s).e =false): ¬4<s.num.1:=fun h4=>by
 rw[kM,if_pos h4] at h;cases h
theorem Ny.prog {s s':RS} {l:List Ak} {need:Nat} (h:Ny s l need s') (he:(kR s).e =false):l=kL s∧need=kD s∧s'=kR s:=by
 obtain⟨j,h5,hn,hj,rfl,rfl,rfl⟩:=h;have h1:=Aie he;have h4:=Aif h1;rw[kM,if_neg h4] at h1;have e:j=s.num.1:=by
  rcases hj with h|h|h
  ·exact h
  ·omega
  rw[Xi _ _ _ h1 hn] at h;cases h
 rw[kL,kD,kR,kM,if_neg h4,if_neg h4,←e];exact⟨rfl,rfl,rfl⟩
theorem LC {s:RS} (he:(kR s).e =false):s.e=false∧s.b=Du (kL s) (kD s)++(kR s).b :=by
 have h1:=Aie he;have h4:=Aif h1;obtain⟨a1,a2,a3⟩:=Cs (s:=kM s) he;have e1:kM s=hS s.num.2 s.num.1:=by rw[kM,if_neg h4]
 rw[e1] at h1;obtain⟨b1,b2⟩:=Xh s.num.2 s.num.1 h1;obtain⟨c1,c2,c3⟩:=Cs (s:=s) b1;refine⟨c1, ?_⟩;have e2:kL s=hN s.num.2 s.num.1:=by rw[kL,if_neg h4]
 have e3:Ae [(kD s:Int)]=enc (kD s):=Jg a3;have e4:Ae [((kL s).length :Int)]=enc s.num.1:=by rw[e2,Sd];exact Jg c3
 rw[Du,e4,e3,c2,List.append_assoc,List.append_assoc]
 congr 1
 rw[b2,←e2,←e1]
 congr 1
def Xj (s:RS):Nat→RS
 |0=>s
 |k+1=>kR (Xj s k)
def kK (s:RS):Nat→List (List Ak×Int)
 |0=>[]
 |k+1=>kK s k++[(kL (Xj s k),(kD (Xj s k):Int))]
def Mr:Nat→RS→List (List Ak×Int)→RS→Prop
 |0,s,K,s'=>K=[]∧s'=s
 |m+1,s,K,s'=>∃K' t l need,Mr m s K' t∧Ny t l need s'∧K=K'++[(l,(need:Int))]
theorem Mr.same {s:RS}: ∀(m:Nat) {K:List (List Ak×Int)} {s':RS},Mr m s K s'→s'.e=false→(∀k∈K,k.1.length≤4)→K=kK s m∧s'=Xj s m
 |0,K,s',h,he,hk=>h
 |m+1,K,s',h,he,hk=>by
  obtain⟨K',t,l,need,h1,h2,rfl⟩:=h;obtain⟨rfl,rfl,rfl⟩:=h2.same he (hk (l,(need:Int)) (by simp));obtain⟨rfl,rfl⟩:=Mr.same m h1 (LC he).1 (fun k hk'=>hk k (by simp[hk']));exact⟨rfl,rfl⟩
theorem Mr.prog {s:RS}: ∀(m:Nat) {K:List (List Ak×Int)} {s':RS},Mr m s K s'→(Xj s m).e =false→K=kK s m∧s'=Xj s m
 |0,K,s',h,he=>h
 |m+1,K,s',h,he=>by
  obtain⟨K',t,l,need,h1,h2,rfl⟩:=h;obtain⟨rfl,rfl⟩:=Mr.prog m h1 (LC he).1;obtain⟨rfl,rfl,rfl⟩:=h2.prog he;exact⟨rfl,rfl⟩
def Fc (K:List (List Ak×Int)):List UInt8:=K.flatMap fun k=>Du k.1 k.2
theorem QS (s:RS): ∀m,(Xj s m).e =false→s.e=false∧s.b=Fc (kK s m)++(Xj s m).b
 |0,h=>⟨h,rfl⟩
 |m+1,h=>by
  obtain⟨h1,h2⟩:=LC (s:=Xj s m) h;obtain⟨h3,h4⟩:=QS s m h1;refine⟨h3, ?_⟩;rw[kK,Fc,List.flatMap_append];show s.b=Fc (kK s m)++((Du _ _++[]))++(kR (Xj s m)).b;rw[List.append_nil,List.append_assoc,←h2];exact h4
def Pt (b:List UInt8):Nat:=(AO 1 b).num.1
def Zd (b:List UInt8):Nat:=((AO 1 b).at 1).num.1
def Nz (b:List UInt8):RS:=(AO 1 b).at 2
def FW (v e:Int) (K:List (List Ak×Int)):Bool:=BE v&&Ca e&&K.all fun k=>Nf k.1 k.2
def Dg (v e:Int) (K:List (List Ak×Int)):List UInt8:=Ae [1]++(Ae [v,e]++Fc K)
theorem Abc (v e:Int) (K:List (List Ak×Int)):Dg v e K=Ae [1,v,e]++Fc K:=by
 rw[Dg,←List.append_assoc,←Cw];rfl
def EP (b:List UInt8):Bool:=Cv (Xj (Nz b) 4)&&FW (Pt b) (Zd b) (kK (Nz b) 4)
theorem Aem {b:List UInt8} (h:EP b=true):b=Dg (Pt b) (Zd b) (kK (Nz b) 4):=by
 unfold EP at h;rw[Bool.and_eq_true] at h;obtain⟨h1,h2⟩:=DZ h.1;obtain⟨a1,a2⟩:=QS (Nz b) 4 h1;unfold Pt Zd;generalize hS:AO 1 b=S at*;have hs:Nz b=S.at 2:=by rw[Nz,hS]
 rw[hs] at a1 a2 h2⊢;obtain⟨c1,c2,c3⟩:=Cs (s:=S.at 1) a1;obtain⟨d1,d2,d3⟩:=Cs (s:=S) c1;have hb:=Kc (k:=1) (b:=b) (by rw[hS];exact d1);rw[hS] at hb;rw[h2,List.append_nil] at a2;have e3:Ae [1,(S.num.1:Int),((S.at 1).num.1 :Int)]=enc 1++(enc S.num.1++enc (S.at 1).num.1):=by
  rw[show[(1:Int),(S.num.1:Int),((S.at 1).num.1 :Int)]=[((1:Nat):Int)]++([(S.num.1:Int)]++[((S.at 1).num.1 :Int)]) from rfl,Cw,Cw,Jg (n:=1) (by decide),Jg d3,Jg c3]
 rw[Abc,e3,hb,List.append_assoc,List.append_assoc]
 congr 1
 rw[d2]
 congr 1
 show(S.at 1).b =_;rw[c2]
 congr 1
theorem QT {v e:Int} {K:List (List Ak×Int)} (h:FW v e K=true): ∀k∈K,k.1.length≤4:=by
 intro k hk;unfold FW at h;rw[Bool.and_eq_true] at h;have h1:=List.all_eq_true.1 h.2 k hk;unfold Nf at h1;simp only[Bool.and_eq_true,decide_eq_true_eq] at h1;exact h1.1.1.1
theorem Agh {b:List UInt8} {K:List (List Ak×Int)} {s':RS} (h:Mr 4 (Nz b) K s'):(Cv s'&&FW (Pt b) (Zd b) K&&decide (b=Dg (Pt b) (Zd b) K))=EP b∧(EP b=true→K=kK (Nz b) 4):=by
 by_cases hk:EP b=true
 ·have h0:=hk;unfold EP at h0;rw[Bool.and_eq_true] at h0;obtain⟨rfl,rfl⟩:=Mr.prog 4 h (DZ h0.1).1;refine⟨?_,fun _=>rfl⟩;rw[hk,h0.1,h0.2,decide_eq_true (Aem hk)];rfl
 refine⟨?_,fun h=>absurd h hk⟩;rw[Bool.not_eq_true] at hk;rw[hk,←Bool.not_eq_true];intro h1;rw[Bool.and_eq_true,Bool.and_eq_true] at h1;obtain⟨rfl,rfl⟩:=Mr.same 4 h (DZ h1.1.1).1 (QT h1.1.2);unfold EP at hk;rw[h1.1.1,h1.1.2] at hk;cases hk
end Go.Proofs.YtjjhceeookpieaaGreat
end
section
set_option maxRecDepth 100000
set_option maxHeartbeats 1600000
open Go Go.RowKit
namespace Go.Proofs.YtjjhceeookpieaaGreat
theorem Fb (v e:Int) (K:List KR):FW v e (K.map KR.m)=Dc v e K:=by
 rw[FW,Dc,List.all_map];rfl
theorem Fm (K:List KR):Fc (K.map KR.m)=CO K:=by
 rw[Fc,CO,List.flatMap_map];rfl
theorem YZ (l:List Ak):(Dh l).length =32*l.length:=by
 induction l with
 |nil=>rfl
 |cons a l ih=>
  have e:Dh (a::l)=a.l++Dh l:=rfl;rw[e,List.length_append,ih,a.len,List.length_cons];omega
theorem LA (l:List Ak) (need:Int):(Du l need).length ≤18+32*l.length:=by
 have a1:=Az [(l.length:Int)];have a2:=Az [need];simp only[Du,List.length_append,YZ,List.length_cons,List.length_nil] at*;omega
theorem Za (K:List KR) (h: ∀k∈K,k.l.length≤1000):(CO K).length ≤32018*K.length:=by
 induction K with
 |nil=>exact Nat.zero_le _
 |cons k K ih=>
  have e:CO (k::K)=Du k.l k.need++CO K:=rfl;have h1:=ih (fun k hk=>h k (List.mem_cons_of_mem _ hk));have h2:=h k (List.mem_cons_self ..);have h3:=LA k.l k.need;rw[e,List.length_append,List.length_cons];omega
theorem PV (v e0:Int) (K:List KR) (h4:K.length=4) {w:World} (hK: ∀k∈K,BN w k):
    Calls Tryz.prog 59 #[.int .i64 1, .agg (BA v e0 K).toArray, .func (.func 60) #[] #[], .func (.func 61) #[] #[]] w (AR (Dc v e0 K) (Ae [1]++(Ae [v,e0]++CO K)) w):=by
 have HK:=Lib.hid hK;have H4:=Lib.hid h4;have hlen:=BG v e0 K h4;have hone:=Bq v e0 K;clear hK h4;unfold AR;rcases hb:Dc v e0 K with _|_
 ·go_enter Tryz.func59,Tryz.ntmps59;go_wp2_with (first|(refine Bv 5 ?_;intro zt wzt _ _ _)|(refine Cp ?_));refine(Lz v e0 K H4.out (fun k hk=>BN.nw (w0:=w) (HK.out k hk))).mono ?_;rw[hb];rintro e w5 ⟨rfl,_⟩;go_wp2_with fail
  go_ret2
  exact⟨Aa,rfl⟩
 go_enter Tryz.func59,Tryz.ntmps59;go_wp2_with (first|(refine Bv 5 ?_;intro zt wzt _ _ _)|(refine Cp ?_));refine(Lz v e0 K H4.out (fun k hk=>BN.nw (w0:=w) (HK.out k hk))).mono ?_;rw[hb];rintro e w5 ⟨rfl,_⟩;go_wp2_with (first|(refine BB 10 ?_;intro zw wzw _ _ _));have hzw:=(inferInstance:HB wzw zw 195 #[.slice none 0 0]).out.lt;have n9:Nw w wzw:=inferInstance;have hzw0:w.heap.size≤zw:=(Aj.monoS (w0:=w) (Aj.of_born (z:=zw) 0)).out ⟨zw,0,none⟩ rfl;refine Ah ((only zw)) (by kernel_rfl) (fun wd _ _=> ?_);refine YS 0 ?_;refine YS 3 ?_;refine KW 4 ?_;refine Yh 1 fun K_ hK_=> ?_
 (first|(refine BM 16 (AM _ _) ?_;intro zb wb _ _ _)|(refine BM 21 (BL _ _ _ _ _) ?_;intro zc wb _ _ _))
 refine Yn hK_ ?_;clear hK_ K_;refine Yg 2 fun K_ hK_=> ?_
 go_simp;refine(Ci (z:=zb) (vs:=[1]) rfl rfl (show 9*1≤1000000000 by decide)).mono ?_;rintro e w6 ⟨f6,caps6,T6,rfl,_,hL6,hT6⟩;have hzb:wzw.heap.size≤zb:=(Aj.monoS (w0:=wzw) (Aj.of_born (z:=zb) 0)).out ⟨zb,0,none⟩ rfl;refine Yz hK_ ?_;clear hK_ K_;refine Yg 5 fun K_ hK_=> ?_
 go_simp;refine(PU v e0 K H4.out (fun k hk=>BN.chg (HK.out k hk) (n9.out.trans (Aa (w0:=wzw)).chg (fun _ _ h=>h)) (fun _ _ h=>h))).mono ?_;rintro e w7 ⟨f7,caps7,T7,rfl,_,hL7,hT7⟩;refine Yz hK_ ?_;clear hK_ K_;refine Yh 6 fun K_ hK_=> ?_
 (first|(refine BM 16 (AM _ _) ?_;intro zb wb _ _ _)|(refine BM 21 (BL _ _ _ _ _) ?_;intro zc wb _ _ _))
 refine Yn hK_ ?_;clear hK_ K_;refine Yg 7 fun K_ hK_=> ?_
 go_simp;refine(DY (z:=zc) (hL6.later (Aa (w0:=w6)).chg (fun _ _ h=>h)) (hL7.later (Aa (w0:=w7)).chg (fun _ _ h=>h))).mono ?_;rintro e w8 ⟨f8,caps8,T8,rfl,_,hL8,hT8⟩;have hzc:wzw.heap.size≤zc:=(Aj.monoS (w0:=wzw) (Aj.of_born (z:=zc) 0)).out ⟨zc,0,none⟩ rfl;obtain⟨f9,caps9,he9,hent,hrun⟩:=hL8.run;injection he9 with e1 _ e2
 injection e1 with e1
 subst e1 e2;have hw8:Cz w8 zw none []:=⟨⟨0,0,rfl,(inferInstance:HB w8 zw 195 #[.slice none 0 0]).out,Cm.nil _ _ _⟩,fun ad h=>by cases h⟩;have hT: ∀x,Wf zw none x→¬T8 x:=by
  rintro x (rfl|⟨ad,e,_⟩) hx
  ·rcases hT8 _ hx with h|h|h|h
   ·have:=Nat.le_trans (Aa (w0:=wzw)).chg.size h;omega
   ·omega
   ·rcases hT6 _ h with h|h
    ·have:=Nat.le_trans (Aa (w0:=wzw)).chg.size h;omega
    omega
   rcases hT7 _ h with h|⟨k,hk,hx⟩
   ·have:=Nat.le_trans (Aa (w0:=wzw)).chg.size h;omega
   have:=(HK.out k hk).low _ hx;omega
  cases e
 have hlen2:([]:List UInt8).length +(Ae [1]++(Ae [v,e0]++CO K)).length ≤1000000000:=by
  have a1:=Az [1];have a2:=Az [v,e0];have a3:=Za K (fun k hk=>by rw[(HK.out k hk).len];exact(HK.out k hk).le);rw[H4.out] at a3;simp only[List.length_append,List.length_cons,List.length_nil] at*;omega
 have HRUN:=Lib.hid (hrun w8 zw none [] (Au.refl _ _) hw8 hT hlen2);clear hrun;refine Yz hK_ ?_;clear hK_ K_;refine Yg 8 fun K_ hK_=> ?_
 go_simp;refine HRUN.out.mono ?_;rintro e w9 ⟨rfl,A9,hW9,hC9,hM9⟩;have st9:Ag (only zw) w8 w9:=⟨hC9.mono (fun x _ hx=>by
  rcases hx with h|⟨ad,e,_⟩
  ·exact h
  cases e)⟩
 refine Yz hK_ ?_;clear hK_ K_;refine Yd ?_;have n99:Nw w w9:=inferInstance;go_wp2_with fail;refine(JS zw A9 _ w9 hW9 (by rw[List.length_append];omega)).mono ?_;rintro e w10 ⟨A10,n10,c10,rfl,hn,ho,hc,hnew⟩;have st10:Ag Ab w9 w10:=⟨hc.out⟩;go_wp2_with fail
 go_ret2
 exact⟨Aa,A10,n10,c10,rfl,by have h9:=hn.out;simpa using h9,⟨ho.out⟩,⟨fun ad e=>Nat.le_trans n99.out.size (hnew.out ad e)⟩⟩
theorem Br (v e0:Int) (K:List KR) (h4:K.length=4) {w:World} (hK: ∀k∈K,BN w k):
    Calls Tryz.prog 30 #[.agg (BA v e0 K).toArray] w (AR (Dc v e0 K) (Ae [1]++(Ae [v,e0]++CO K)) w):=by
 have HK:=Lib.hid hK;have H4:=Lib.hid h4;have hlen:=BG v e0 K h4;have hone:=Bq v e0 K;clear hK h4;unfold AR;rcases hb:Dc v e0 K with _|_
 all_goals
  go_enter Tryz.func30,Tryz.ntmps30;go_wp2_with (first|(refine Bv 1 ?_;intro zt wzt _ _ _)|(refine Cp ?_));refine(PV v e0 K H4.out (fun k hk=>BN.nw (w0:=w) (HK.out k hk))).mono ?_;rintro e w5 ⟨_,h5⟩;rw[hb] at h5
 ·obtain rfl:e=_:=h5;go_wp2_with fail
  go_ret2
  exact⟨Aa,rfl⟩
 obtain⟨A,n,c,rfl,hn,hO,hA⟩:=h5;have HN:=Lib.hid hn;clear hn;go_wp2_with fail
 go_ret2
 exact⟨Aa,A,n,c,rfl,by have h9:=HN.out;simpa using h9,hO,Aj.monoS hA⟩
end Go.Proofs.YtjjhceeookpieaaGreat
end
section
set_option maxRecDepth 100000
set_option maxHeartbeats 1600000
open Go Go.RowKit
namespace Go.Proofs.YtjjhceeookpieaaGreat
theorem Abb {w:World} {K:List KR} (h: ∀k∈K,BN w k) (k:Nat) (hk:k<K.length):BN w (gt K k):=h _ (BD K k hk)
theorem Zb (K:List KR) (k:Nat) (h:k<K.length):(K.take (k+1)).all EO=((K.take k).all EO&&EO (gt K k)):=by
 rw[←List.take_append_getElem h,List.all_append];simp[gt,List.getD_eq_getElem?_getD,h]
theorem We (K:List KR) (k:Nat) (h:k<K.length):CO (K.take (k+1))=CO (K.take k)++Du (gt K k).l (gt K k).need :=by
 rw[←List.take_append_getElem h,CO,List.flatMap_append];simp[gt,List.getD_eq_getElem?_getD,h,CO]
theorem Kx (v e0:Int) (K:List KR) (h4:K.length=4) {w:World} (hK: ∀k∈K,BN w k):
    Calls Tryz.prog 91 #[.agg (BA v e0 K).toArray] w fun e w'=>e= .returned (.bool (Dc v e0 K))∧Ag Ab w w':=by
 have HK:=Lib.hid hK;have H4:=Lib.hid h4;have hlen:=BG v e0 K h4;have hone:=Bq v e0 K;have kb1:=AM e0;obtain⟨R,hR⟩: ∃R,R=Dc v e0 K:=⟨_,rfl⟩;have HR0:Hid (R=(BE v&&Ca e0&&K.all EO)):=Lib.hid hR;rw[←hR];clear hK h4 hR;go_enter Tryz.func91,Tryz.ntmps91;go_wp2_with (first|(refine Bv 1 ?_;intro zt wzt _ _ _));go_loopw [3] (fun iv wr=>∃k:Nat,k≤4∧iv= .int .i64 (k:Int)∧Hid ((K.take k).all EO=true)∧Ag Ab w wr∧HB wr zt 33 (BA v e0 K).toArray) (fun iv _=>4 -(intOf iv).toNat)
 case atStart=>exact⟨0,Nat.zero_le _,rfl,Lib.hid rfl,Aa,inferInstance⟩
 case round=>
  obtain⟨k,hk,rfl,HA,st,ht⟩:=hrel;have nr:Nw w wr:=⟨st.chg⟩;by_cases hlt:k<4
  ·have hltI:(k:Int)<4:=by omega
   have hkl:k<K.length:=by rw[H4.out];exact hlt
   have hki:=BN.nw (w:=wr) (Abb HK.out k hkl);have hrk:HR wr (gt K k).A (cellsOf (gt K k).l):=⟨hki.rd⟩;have HKI:=Lib.hid hki;have hat:=Zb K k hkl;obtain⟨V,hV⟩: ∃V,V=EO (gt K k):=⟨_,rfl⟩;rw[HA.out,Bool.true_and,←hV] at hat;have HAT:=Lib.hid hat;have HV:=Lib.hid hV;have HNO:Hid (V=false→R=false):=Lib.hid (fun h=>by
    have h1:K.all EO=false:=by
     rw[←Bool.not_eq_true,List.all_eq_true];intro h2;have h3:=h2 _ (BD K k hkl);rw[←hV,h] at h3;cases h3
    rw[HR0.out,h1,Bool.and_false])
   clear hki hat hV;go_wp2_with (first|((with_reducible apply(CD (i:=k) (m:=4)));exact rfl;exact rfl;exact Tryz.underlying31;(kernel_rfl);exact hlt)|((with_reducible apply(Ex (i:=k)));exact rfl;exact ht;infer_instance;exact hkl));refine(DU (l:=(gt K k).l) (gt K k).need HKI.out.len (Nat.le_trans HKI.out.le (by decide))).mono ?_;rw[show Nf (gt K k).l (gt K k).need =V from HV.out.symm];rintro e w5 ⟨rfl,_⟩;cases V
   case false=>
    have HF:Hid (R=false):=Lib.hid (HNO.out rfl);clear HNO;go_wp2_with fail;go_ret;rw[HF.out];exact⟨rfl,Aa⟩
   case true=>
    clear HNO;go_wp2_with fail;exact⟨⟨k+1,by omega,by go_num,HAT,Aa,inferInstance⟩,by simp[intOf];omega⟩
  have hltI: ¬(k:Int)<4:=by omega
  have hk4:k=4:=by omega
  have HF:Hid (R=(BE v&&Ca e0)):=Lib.hid (by
   have h1:=HA.out;rw[List.take_of_length_le (by rw[H4.out];omega)] at h1;rw[HR0.out,h1,Bool.and_true])
  clear HA hk4;cases h1:BE v
  case false=>
   go_wp2_with (first|(refine GU ?_));refine(AX v _).mono ?_;rw[h1];rintro e w5 ⟨rfl,_⟩;go_wp2_with (first|go_skip);go_ret;rw[HF.out,h1];exact⟨rfl,Aa⟩
  case true=>
   go_wp2_with (first|(refine GU ?_));refine(AX v _).mono ?_;rw[h1];rintro e w5 ⟨rfl,_⟩;go_wp2_with (first|(refine Ct ?_)|(refine WGB ?_)|(refine BM 20 (kb1 _) ?_;intro zb wb _ _ _)|(refine CG ?_)|(refine GU ?_));have hr2:HR wb (some ⟨zb,0,none⟩) (Ic [e0]):=HR.ints1 (inferInstance:HB wb zb 3 #[.int .i64 e0]);refine(Dv (l:=[e0]) (n:=1) (c:=1) rfl (by decide)).mono ?_;rw[FK];rintro e w6 ⟨rfl,_⟩;go_wp2_with fail;go_ret;rw[HF.out,h1];exact⟨rfl,Aa⟩
theorem LB (v e0:Int) (K:List KR) (h4:K.length=4) {w:World} (hK: ∀k∈K,BN w k):
    Calls Tryz.prog 45 #[.agg (BA v e0 K).toArray] w (AR (Dc v e0 K) (Ae [1]++(Ae [v,e0]++CO K)) w):=by
 have HK:=Lib.hid hK;have H4:=Lib.hid h4;have hlen:=BG v e0 K h4;have hone:=Bq v e0 K;have kb3:=Pm 1 v e0;have HE:Hid (Ae [1]++(Ae [v,e0]++CO K)=Ae [1,v,e0]++CO K):=Lib.hid (by rw[←List.append_assoc,←Cw];rfl);have HE3:Hid ((Ae [1,v,e0]).length ≤27):=Lib.hid (Az [1,v,e0]);rw[HE.out];clear hK h4 HE;unfold AR;cases hb:Dc v e0 K
 case false=>
  go_enter Tryz.func45,Tryz.ntmps45;go_wp2_with (first|(refine Bv 1 ?_;intro zt wzt _ _ _)|(refine Cp ?_));refine(Kx v e0 K H4.out (fun k hk=>BN.nw (w0:=w) (HK.out k hk))).mono ?_;rw[hb];rintro e w5 ⟨rfl,_⟩;go_wp2_with fail
  go_ret2
  exact⟨Aa,rfl⟩
 case true=>
  go_enter Tryz.func45,Tryz.ntmps45;go_wp2_with (first|(refine Bv 1 ?_;intro zt wzt _ _ _)|(refine Cp ?_));refine(Kx v e0 K H4.out (fun k hk=>BN.nw (w0:=w) (HK.out k hk))).mono ?_;rw[hb];rintro e w5 ⟨rfl,_⟩;have n5:Nw w w5:=inferInstance;have hl5:=(inferInstance:HB w5 zt 33 (BA v e0 K).toArray).out.lt;go_wp2_with (first|(refine BM 13 (kb3 _) ?_;intro zi wb _ _ _)|(refine GU ?_));refine(FJ (some ⟨zi,0,none⟩) 3 3 [1,v,e0] _ (HB.rdL (z:=zi) (t:=3) (cs:=#[.int .i64 1, .int .i64 v, .int .i64 e0]) inferInstance) rfl (show 3≤1000000000 by decide)).mono ?_;rintro e w6 ⟨A6,n6,c6,rfl,hF⟩;have st6:Ag Ab _ w6:=⟨hF.out.chg⟩;have hsz6:w5.heap.size≤wb.heap.size:=(inferInstance:Ay w5 wb).out;have hA6:Aj w A6:=⟨fun ad e=>Nat.le_trans (Nat.le_trans n5.out.size hsz6) (hF.out.new ad e)⟩;have ho6:HO w6 5 1 A6 n6 c6 (bs (Ae [1,v,e0]++CO (K.take 0))):=by
   have h1:=MF hF.out;simpa[CO] using h1
  have hn6:n6≤27:=by
   have h1:=hF.out.len;have:=HE3.out;omega
  have HN6:Hid (n6=(Ae [1,v,e0]++CO (K.take 0)).length):=Lib.hid (by rw[hF.out.len];simp[CO]);have os:As (An A6) zt:=⟨fun⟨ad,e,hk⟩=>by
   have h1:=Nat.le_trans hsz6 (hF.out.new ad e);omega⟩
  have ht6:HB w6 zt 33 (BA v e0 K).toArray :=inferInstance;clear hF;go_wp2_with fail;go_loopw [4,5] (fun bv iv wr=>∃(k:Nat) (A1:Option Addr) (n1 c1:Nat),k≤4∧iv= .int .i64 (k:Int)∧bv= .slice A1 n1 c1∧Ag Ab w wr∧HO wr 5 1 A1 n1 c1 (bs (Ae [1,v,e0]++CO (K.take k)))∧Aj w A1∧As (An A1) zt∧n1≤27+32018*k∧Hid (n1=(Ae [1,v,e0]++CO (K.take k)).length)∧HB wr zt 33 (BA v e0 K).toArray) (fun _ iv _=>4 -(intOf iv).toNat)
  case atStart=>exact⟨0,A6,n6,c6,Nat.zero_le _,rfl,rfl,Aa,ho6,hA6,os,by omega,HN6,ht6⟩
  case round=>
   clear ho6 hA6 os hn6 ht6 st6 n5 HN6 hsz6 hl5;obtain⟨k,A1,n1,c1,hk,rfl,rfl,_,hO,hA1,os,hn1,HN1,ht⟩:=hrel;have st:Ag Ab w wr:=inferInstance;have nr:Nw w wr:=⟨st.chg⟩;by_cases hlt:k<4
   ·have hltI:(k:Int)<4:=by omega
    have hkl:k<K.length:=by rw[H4.out];exact hlt
    have hki:=BN.nw (w:=wr) (Abb HK.out k hkl);have hrk:HR wr (gt K k).A (cellsOf (gt K k).l):=⟨hki.rd⟩;have HKI:=Lib.hid hki;have HTK:Hid (Ae [1,v,e0]++CO (K.take k)++Du (gt K k).l (gt K k).need =Ae [1,v,e0]++CO (K.take (k+1))):=Lib.hid (by rw[We K k hkl,List.append_assoc]);clear hki;go_wp2_with (first|((with_reducible apply(CD (i:=k) (m:=4)));exact rfl;exact rfl;exact Tryz.underlying31;(kernel_rfl);exact hlt)|((with_reducible apply(Ex (i:=k)));exact rfl;exact ht;infer_instance;exact hkl));refine(Np (l:=(gt K k).l) (gt K k).need HKI.out.len HKI.out.le).mono ?_;rintro e w7 ⟨A7,n7,c7,rfl,_,hO7,hA7,hn7⟩;have hkle:=HKI.out.le;have hr7:HR w7 A7 (bs (Du (gt K k).l (gt K k).need)):=⟨hO7.out.rd⟩;have hl7:(Du (gt K k).l (gt K k).need).length =n7:=by
     have h9:=hO7.out.len;rw[Am] at h9;omega
    clear hO7;go_wp2_with (first|(refine NO ?_;intro A' c' wa _ _ _ hcap));refine⟨⟨k+1,A',n1+n7,c',by omega,by go_num,rfl,Aa, ?_,inferInstance,inferInstance,by omega,Lib.hid ?_,inferInstance⟩,by simp[intOf];omega⟩
    ·rw[←HTK.out]
     infer_instance
    rw[←HTK.out,List.length_append,←HN1.out,hl7]
   have hltI: ¬(k:Int)<4:=by omega
   have hk4:k=4:=by omega
   have hfin:K.take k=K:=List.take_of_length_le (by rw[H4.out];omega);rw[hfin] at hO HN1;clear hk4 hfin;go_wp2_with fail
   go_ret2
   exact⟨Aa,A1,n1,c1,rfl,by have h9:=HN1.out;simpa using h9,hO,hA1⟩
end Go.Proofs.YtjjhceeookpieaaGreat
end
