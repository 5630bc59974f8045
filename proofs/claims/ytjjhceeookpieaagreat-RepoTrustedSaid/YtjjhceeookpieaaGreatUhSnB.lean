/- UhSnB, UhSnE -/
import Derived.Test.YtjjhceeookpieaaGreatUhZ
import Derived.Test.YtjjhceeookpieaaGreatUhSnA
import Derived.Test.YtjjhceeookpieaaGreatUhWnA
import Derived.Test.YtjjhceeookpieaaGreatUhTy
import Derived.Test.YtjjhceeookpieaaGreatUhWuB
section
set_option maxRecDepth 100000
set_option maxHeartbeats 1600000
open Go Go.RowKit
namespace Go.Proofs.YtjjhceeookpieaaGreat
theorem Sn {w:World} {g zl zf n c:Nat} {A B:Option Addr} {xs:List UInt8} {l:List AE} {t1 t2:TypeId} {fx:FuncId} (hf:fx= 135) (ys:AE→List UInt8) (U:Nat→Prop) (hw:Cz w g A xs) [h1:HB w zl t1 #[.slice B n c]] [h2:HB w zf t2 #[.func (.func fx) #[] #[]]] (hr:Rd w B (cellsOf l)) (hl:l.length=n) (hm:n≤1000000000)
    (hU: ∀x,U x→¬Wf g A x) (hUl: ∀x,U x→x<w.heap.size) (hzl: ¬Wf g A zl) (hzf: ¬Wf g A zf) (hB:Dx (Wf g A) B (cellsOf l)) (hlay: ∀x∈l,∀w1,Au (fun x=>¬U x) w w1→Calls Tryz.prog 135 #[.agg (Af.enc x).toArray] w1 (AF w1 (ys x) U)) (hx:xs.length+(l.flatMap ys).length ≤1000000000):
    Calls Tryz.prog 226 #[.pointer (some ⟨g,0,none⟩), .pointer (some ⟨zl,0,none⟩), .pointer (some ⟨zf,0,none⟩)] w fun e w'=>e= .returned (.tuple #[])∧∃A',Cz w' g A' (xs++l.flatMap ys)∧Au (Wf g A) w w'∧Cb w A A':=by
 subst hf;have HL:=Lib.hid hl;have HLAY:=Lib.hid hlay;have HX:=Lib.hid hx;clear hlay hx;go_enter Tryz.func226,Tryz.ntmps226;go_wp2_with (first|((with_reducible apply Ac);exact rfl;infer_instance;(first|(exact rfl)|(exact tg_hw _)|(exact tg_ctr _)|(exact tg_ecu _)|(exact srch_who)|exact srch_fd)));go_loopw [8] (fun iv wr=>∃(k:Nat) (A1:Option Addr),k≤n∧iv= .int .i64 (k:Int)∧Cz wr g A1 (xs++(l.take k).flatMap ys)∧Au (Wf g A) w wr∧Cb w A A1) (fun iv _=>n -(intOf iv).toNat)
 case atStart=>exact⟨0,A,Nat.zero_le _,rfl,by simpa using hw,Au.refl _ _,Cb.refl _ _⟩
 case round=>
  obtain⟨k,A1,hk,rfl,hW,hC,hM⟩:=hrel;have HW:=Lib.hid hW;have HM:=Lib.hid hM;clear hW hM;by_cases hlt:k<n
  ·have hltI:(k:Int)<n:=by omega
   have hkl:k<l.length:=by omega
   have hr1:HR wr B (cellsOf l):=⟨hr.chg hC hB⟩;have k2:HB wr zf t2 #[.func (.func 135) #[] #[]]:=⟨h2.out.chg hC hzf⟩;have hmem:gt l k∈l:=BD l k hkl;have HTK:Hid ((l.take (k+1)).flatMap ys=(l.take k).flatMap ys++ys (gt l k)):=Lib.hid (by
    rw[←List.take_append_getElem hkl,List.flatMap_append];simp[gt,List.getD_eq_getElem?_getD,hkl])
   have HLE:Hid (((l.take k).flatMap ys).length +(ys (gt l k)).length ≤(l.flatMap ys).length):=Lib.hid (by
    have e:l.flatMap ys=(l.take (k+1)).flatMap ys++(l.drop (k+1)).flatMap ys:=by rw[←List.flatMap_append,List.take_append_drop]
    rw[e,HTK.out,List.length_append,List.length_append];omega)
   go_wp2_with (first|(refine BB 5 ?_;intro zv wzv _ _ _)|(refine Cp ?_)|((with_reducible apply Ac);exact rfl;infer_instance;(first|(exact rfl)|(exact tg_hw _)|(exact tg_ctr _)|(exact tg_ecu _)|(exact srch_who)|exact srch_fd))|(refine Bt ?_;intro ws _ _)|(refine Ja AE 37 ?_)|(refine Rk AE 101 ?_));refine(HLAY.out (gt l k) hmem _ ((hC.mono (fun x _ h h'=>hU x h' h)).trans (Aa (w0:=wr)).chg (fun _ _ h=>h.elim))).mono ?_;rintro e w5 ⟨f,caps,T,rfl,hs5,hL5,hT5⟩;have n5:Nw wr w5:=inferInstance;have hsz:=n5.out.size;obtain⟨f9,caps9,he9,hent,hrun⟩:=hL5.run;injection he9 with e1 _ e2
   injection e1 with e1
   subst e1 e2;have hTT: ∀x,Wf g A1 x→¬T x:=by
    intro x hx hTx;have hxl:=HW.out.old x hx;rcases hT5 x hTx with h|h
    ·have:=Nat.le_trans (Aa (w0:=wr)).chg.size h;omega
    rcases hx with rfl|⟨ad,e,rfl⟩
    ·exact hU _ h (.inl rfl)
    rcases HM.out with rfl|⟨ad',e',h'⟩
    ·exact hU _ h (.inr ⟨ad,e,rfl⟩)
    rw[e] at e';injection e' with e'
    subst e';have:=hUl _ h;omega
   have HRUN:=Lib.hid (hrun w5 g A1 (xs++(l.take k).flatMap ys) (Au.refl _ _) (HW.out.chg n5.out (fun _ _ h=>h)) hTT (by
    have h1:=HLE.out;have h2:=HX.out;rw[List.length_append];omega))
   clear hrun hL5 hT5;go_wp2_with fail;refine HRUN.out.mono ?_;rintro e w6 ⟨rfl,A6,hW6,hC6,hM6⟩;have h7:=En (hC.trans n5.out (fun _ _ h=>h.elim)) HM.out hC6 hM6;have HW6:=Lib.hid hW6;clear hW6 hC6 hM6;go_wp2_with fail;refine⟨⟨k+1,A6,by omega,by go_num, ?_,h7.1,h7.2⟩,by simp[intOf];omega⟩;rw[HTK.out,←List.append_assoc];exact HW6.out
  have hltI: ¬(k:Int)<n:=by omega
  have hfin:l.take k=l:=List.take_of_length_le (by have:=HL.out;omega);rw[hfin] at HW;go_wp2_with fail
  go_end0
  exact⟨rfl,A1,HW.out,hC,HM.out⟩
theorem Ur {w:World} {n c:Nat} {B:Option Addr} {l:List AE} (ys:AE→List UInt8) (U:Nat→Prop) (hr:Rd w B (cellsOf l)) (hl:l.length=n) (hm:n≤1000000000) (hUl: ∀x,U x→x<w.heap.size)
    (hlay: ∀x∈l,∀w1,Au (fun x=>¬U x) w w1→Calls Tryz.prog 135 #[.agg (Af.enc x).toArray] w1 (AF w1 (ys x) U)):
    Calls Tryz.prog 195 #[.slice B n c, .func (.func 135) #[] #[]] w (AF w (l.flatMap ys) (fun x=>(cellsOf l≠[]∧An B x)∨U x)):=by
 have HLAY:=Lib.hid hlay;clear hlay;unfold AF;go_enter Tryz.func195,Tryz.ntmps195;go_wp2_with (first|(refine WBL 2 ?_;intro bl wbl _ _ _)|((with_reducible apply(Dd (dst:=some 3) (cs:=#[.func (.func 135) #[] #[]])));exact rfl;exact rfl;intro bv wbv _ _ _));go_ret;have h1:HB wbv bl 37 #[.slice B n c]:=inferInstance;have h2:HB wbv bv 228 #[.func (.func 135) #[] #[]]:=inferInstance;have hst:Ag Ab w wbv:=Aa;have hbl:w.heap.size≤bl:=Nat.le_of_eq (inferInstance:AW w bl).eq.symm;have hbv:w.heap.size≤bv:=by
  have e1:=(inferInstance:AW wbl bv).eq;have e2:=(inferInstance:Ay w wbl).out;omega
 have hr2:=hr.later hst.chg;refine⟨_,_,fun x=>x=bl∨x=bv∨(cellsOf l≠[]∧An B x)∨U x,rfl,hst,⟨fun x hx=> ?_,_,_,rfl,EI Tryz.func226 (by kernel_rfl) rfl,fun w1 g A xs hc hw hT hlen=> ?_⟩,fun x hx=> ?_⟩
 ·rcases hx with rfl|rfl|⟨hne,ad,e,hk⟩|h
  ·exact h1.out.lt
  ·exact h2.out.lt
  ·rw[←hk];exact DC hr2 hne e
  exact Nat.lt_of_lt_of_le (hUl x h) hst.chg.size
 ·have k1:HB w1 bl 37 #[.slice B n c]:=⟨h1.out.chg hc (fun hk=>hk (.inl rfl))⟩;have k2:HB w1 bv 228 #[.func (.func 135) #[] #[]]:=⟨h2.out.chg hc (fun hk=>hk (.inr (.inl rfl)))⟩;exact Sn (zl:=bl) (zf:=bv) rfl ys U hw (hr2.chg hc (fun hne ad e hk=>hk (.inr (.inr (.inl ⟨hne,ad,e,rfl⟩))))) hl hm
   (fun x hx h=>hT x h (.inr (.inr (.inr hx)))) (fun x hx=>Nat.lt_of_lt_of_le (Nat.lt_of_lt_of_le (hUl x hx) hst.chg.size) hc.size) (fun h=>hT _ h (.inl rfl)) (fun h=>hT _ h (.inr (.inl rfl))) (fun hne ad e hk=>hT _ hk (.inr (.inr (.inl ⟨hne,ad,e,rfl⟩))))
   (fun x hx w2 h=>HLAY.out x hx w2 (((hst.chg.mono (T:=fun x=>¬U x) (fun _ _ h=>h.elim)).trans (hc.mono (fun x _ h h'=>h (.inr (.inr (.inr h'))))) (fun _ _ h=>h)).trans h (fun _ _ h=>h))) (by omega)
 rcases hx with rfl|rfl|h|h
 ·exact .inl hbl
 ·exact .inl hbv
 ·exact .inr (.inl h)
 exact .inr (.inr h)
theorem Us {w:World} {n c:Nat} {B:Option Addr} {l:List AE} (ys:AE→List UInt8) (U:Nat→Prop) (hr:Rd w B (cellsOf l)) (hl:l.length=n) (hm:n≤1000000000) (hUl: ∀x,U x→x<w.heap.size)
    (hlay: ∀x∈l,∀w1,Au (fun x=>¬U x) w w1→Calls Tryz.prog 135 #[.agg (Af.enc x).toArray] w1 (AF w1 (ys x) U)):
    Calls Tryz.prog 134 #[.slice B n c, .func (.func 135) #[] #[]] w (AF w (Ae [(n:Int)]++l.flatMap ys) (fun x=>(cellsOf l≠[]∧An B x)∨U x)):=by
 have kb0:=AM (n:Int);have HLAY:=Lib.hid hlay;have HL:=Lib.hid hl;clear hlay hl;unfold AF;go_enter Tryz.func134,Tryz.ntmps134;go_wp2_with (first|(refine BM 7 (kb0 _) ?_;intro zb wb _ _ _));refine(Ci (z:=zb) (vs:=[(n:Int)]) rfl rfl (show 9*1≤1000000000 by decide)).mono ?_;rintro e w5 ⟨f5,caps5,T5,rfl,_,hL5,hT5⟩;have hzb:w.heap.size≤zb:=(Aj.monoS (w0:=w) (Aj.of_born (z:=zb) 0)).out ⟨zb,0,none⟩ rfl;go_wp2_with fail;refine(Ur (l:=l) ys U (hr.later (Aa (w0:=w)).chg) HL.out hm (fun x h=>Nat.lt_of_lt_of_le (hUl x h) (Aa (w0:=w)).chg.size) (fun x hx w1 h=>HLAY.out x hx w1 (((Aa (w0:=w)).chg.mono (fun _ _ h=>h.elim)).trans h (fun _ _ h=>h)))).mono ?_;rintro e w6 ⟨f6,caps6,T6,rfl,_,hL6,hT6⟩;have kb2:=BL f5 f6 caps5 caps6;go_wp2_with (first|(refine BM 12 (kb2 _) ?_;intro zc wb _ _ _));refine(DY (z:=zc) (hL5.later (Aa (w0:=w5)).chg (fun _ _ h=>h)) (hL6.later (Aa (w0:=w6)).chg (fun _ _ h=>h))).mono ?_;rintro e w7 ⟨f7,caps7,T7,rfl,_,hL7,hT7⟩;have hzc:w.heap.size≤zc:=(Aj.monoS (w0:=w) (Aj.of_born (z:=zc) 0)).out ⟨zc,0,none⟩ rfl;go_wp2_with fail;go_ret;refine⟨f7,caps7,T7,rfl,Aa,hL7,fun x hx=> ?_⟩;rcases hT7 x hx with h|rfl|h|h
 ·exact .inl (Nat.le_trans (Aa (w0:=w)).chg.size h)
 ·exact .inl hzc
 ·rcases hT5 x h with h|rfl
  ·exact .inl (Nat.le_trans (Aa (w0:=w)).chg.size h)
  exact .inl hzb
 rcases hT6 x h with h|h
 ·exact .inl (Nat.le_trans (Aa (w0:=w)).chg.size h)
 exact .inr h
theorem So (k:AE) (w:World):
    Calls Tryz.prog 135 #[.agg (Af.enc k).toArray] w (AF w (Kg k) Ab):=by
 have hsz:(Af.enc k).toArray.size =2:=rfl;unfold AF;go_enter Tryz.func135,Tryz.ntmps135;go_wp2_with (first|(refine Bv 1 ?_;intro zt wzt _ _ _));have hwz:=(Aa (w0:=w) (w:=wzt)).chg.size;refine Ah (Ab) (by kernel_rfl) (fun wd _ _=> ?_);refine YS 0 ?_;refine' tk 1 _ rfl (by kernel_rfl) (by kernel_rfl) (by kernel_rfl) (fun _ _ _ h=>h) (yo (by rfl) fun w' _=> ?_) inferInstance ?_;rotate_left
 ·((apply Ai);exact rfl;infer_instance;infer_instance;(first|(exact rfl)|(exact tg_hw _)|(exact tg_ctr _)|(exact tg_ecu _)|(exact srch_who)|exact srch_fd))
 try simp only[Act.put,sA,sB,sC]
 refine YS 3 ?_;refine' tk 4 _ rfl (by kernel_rfl) (by kernel_rfl) (by kernel_rfl) (fun _ _ _ h=>h) (yo (by rfl) fun w' _=> ?_) inferInstance ?_;rotate_left
 ·((apply Ai);exact rfl;infer_instance;infer_instance;(first|(exact rfl)|(exact tg_hw _)|(exact tg_ctr _)|(exact tg_ecu _)|(exact srch_who)|exact srch_fd))
 try simp only[Act.put,sA,sB,sC]
 refine wpAnyH_ready (rs:=[2,5]) (by kernel_rfl) (by simp) (AllReadyH.cons rfl (fun K_ hK_=> ?_) (AllReadyH.cons rfl (fun K_ hK_=> ?_) AllReadyH.nil))
 focus
  go_simp;refine(AD (Al k.l) k.l rfl _).mono ?_;rintro e w5 ⟨f5,caps5,T5,rfl,_,hL5,hT5⟩;refine Yz hK_ ?_;clear hK_ K_;refine Yh 5 fun K_ hK_=> ?_
  (refine BM 8 (AM _ _) ?_;intro zb wb _ _ _)
  refine Yn hK_ ?_;clear hK_ K_;refine Yg 6 fun K_ hK_=> ?_
  go_simp;refine(Ci (z:=zb) (vs:=[k.v]) rfl rfl (show 9*1≤1000000000 by decide)).mono ?_;rintro e w6 ⟨f6,caps6,T6,rfl,_,hL6,hT6⟩;have hzb:w.heap.size≤zb:=(Aj.monoS (w0:=w) (Aj.of_born (z:=zb) 0)).out ⟨zb,0,none⟩ rfl;refine Yz hK_ ?_;clear hK_ K_;refine Yh 7 fun K_ hK_=> ?_
  (refine BM 10 (BL _ _ _ _ _) ?_;intro zc wb _ _ _)
  refine Yn hK_ ?_;clear hK_ K_;refine Yg 8 fun K_ hK_=> ?_
  go_simp;refine(DY (z:=zc) (hL5.later (Aa (w0:=w5)).chg (fun _ _ h=>h)) (hL6.later (Aa (w0:=w6)).chg (fun _ _ h=>h))).mono ?_;rintro e w7 ⟨f7,caps7,T7,rfl,_,hL7,hT7⟩;have hzc:w.heap.size≤zc:=(Aj.monoS (w0:=w) (Aj.of_born (z:=zc) 0)).out ⟨zc,0,none⟩ rfl;refine Yz hK_ ?_;clear hK_ K_;refine YS 9 ?_;refine Yd ?_
 rotate_left 1
 focus
  refine Yq ?_
  (refine BM 8 (AM _ _) ?_;intro zb wb _ _ _)
  refine Yn hK_ ?_;clear hK_ K_;refine Yg 2 fun K_ hK_=> ?_
  go_simp;refine(AD (Al k.l) k.l rfl _).mono ?_;rintro e w5 ⟨f5,caps5,T5,rfl,_,hL5,hT5⟩;refine Yz hK_ ?_;clear hK_ K_;refine Yg 6 fun K_ hK_=> ?_
  go_simp;refine(Ci (z:=zb) (vs:=[k.v]) rfl rfl (show 9*1≤1000000000 by decide)).mono ?_;rintro e w6 ⟨f6,caps6,T6,rfl,_,hL6,hT6⟩;have hzb:w.heap.size≤zb:=(Aj.monoS (w0:=w) (Aj.of_born (z:=zb) 0)).out ⟨zb,0,none⟩ rfl;refine Yz hK_ ?_;clear hK_ K_;refine Yh 7 fun K_ hK_=> ?_
  (refine BM 10 (BL _ _ _ _ _) ?_;intro zc wb _ _ _)
  refine Yn hK_ ?_;clear hK_ K_;refine Yg 8 fun K_ hK_=> ?_
  go_simp;refine(DY (z:=zc) (hL5.later (Aa (w0:=w5)).chg (fun _ _ h=>h)) (hL6.later (Aa (w0:=w6)).chg (fun _ _ h=>h))).mono ?_;rintro e w7 ⟨f7,caps7,T7,rfl,_,hL7,hT7⟩;have hzc:w.heap.size≤zc:=(Aj.monoS (w0:=w) (Aj.of_born (z:=zc) 0)).out ⟨zc,0,none⟩ rfl;refine Yz hK_ ?_;clear hK_ K_;refine YS 9 ?_;refine Yd ?_
 rotate_left 1
 all_goals
  go_wp2_with fail;go_ret;refine⟨f7,caps7,T7,rfl,Aa,hL7,fun x hx=> ?_⟩;rcases hT7 x hx with h|rfl|h|h
  ·exact .inl (Nat.le_trans (Aa (w0:=w)).chg.size h)
  ·exact .inl hzc
  ·exact .inl (Nat.le_trans (Aa (w0:=w)).chg.size (hT5 x h))
  rcases hT6 x h with h|rfl
  ·exact .inl (Nat.le_trans (Aa (w0:=w)).chg.size h)
  exact .inl hzb
def Agl (A:Option Addr) (P:List AE):Nat→Prop:=fun x=>cellsOf P≠[]∧An A x
theorem Qa (v e0:Int) {A:Option Addr} {n c:Nat} {P:List AE} {w:World} [hr:HR w A (cellsOf P)] (hl:P.length=n) (hm:n≤1000000000):
    Calls Tryz.prog 67 #[.agg #[.int .i64 v, .int .i64 e0, .slice A n c]] w (AF w (Ae [v,e0]++(Ae [(n:Int)]++EJ P)) (Agl A P)):=by
 have HRR:=Lib.hid hr.out;have HL:=Lib.hid hl;clear hl;unfold AF;go_enter Tryz.func67,Tryz.ntmps67;go_wp2_with (first|(refine Bv 1 ?_;intro zt wzt _ _ _));have hwz:=(Aa (w0:=w) (w:=wzt)).chg.size;refine Ah (Ab) (by kernel_rfl) (fun wd _ _=> ?_);refine YS 0 ?_;refine' tk 1 _ rfl (by kernel_rfl) (by kernel_rfl) (by kernel_rfl) (fun _ _ _ h=>h) (yo (by rfl) fun w' _=> ?_) inferInstance ?_;rotate_left
 ·((apply Ai);exact rfl;infer_instance;infer_instance;(first|(exact rfl)|(exact tg_hw _)|(exact tg_ctr _)|(exact tg_ecu _)|(exact srch_who)|exact srch_fd))
 try simp only[Act.put,sA,sB,sC]
 refine YS 2 ?_;refine' tk 3 _ rfl (by kernel_rfl) (by kernel_rfl) (by kernel_rfl) (fun _ _ _ h=>h) (yo (by rfl) fun w' _=> ?_) inferInstance ?_;rotate_left
 ·((apply Ai);exact rfl;infer_instance;infer_instance;(first|(exact rfl)|(exact tg_hw _)|(exact tg_ctr _)|(exact tg_ecu _)|(exact srch_who)|exact srch_fd))
 try simp only[Act.put,sA,sB,sC]
 refine YS 6 ?_;refine' tk 7 _ rfl (by kernel_rfl) (by kernel_rfl) (by kernel_rfl) (fun _ _ _ h=>h) (yo (by rfl) fun w' _=> ?_) inferInstance ?_;rotate_left
 ·((apply Ai);exact rfl;infer_instance;infer_instance;(first|(exact rfl)|(exact tg_hw _)|(exact tg_ctr _)|(exact tg_ecu _)|(exact srch_who)|exact srch_fd))
 try simp only[Act.put,sA,sB,sC]
 refine Yh 4 fun K_ hK_=> ?_
 (refine BM 7 (GR _ _ _) ?_;intro zb wb _ _ _)
 refine Yn hK_ ?_;clear hK_ K_;refine Yg 5 fun K_ hK_=> ?_
 go_simp;refine(Ci (z:=zb) (vs:=[v,e0]) rfl rfl (show 9*2≤1000000000 by decide)).mono ?_;rintro e w5 ⟨f5,caps5,T5,rfl,_,hL5,hT5⟩;have hzb:w.heap.size≤zb:=(Aj.monoS (w0:=w) (Aj.of_born (z:=zb) 0)).out ⟨zb,0,none⟩ rfl;refine Yz hK_ ?_;clear hK_ K_;refine Yg 8 fun K_ hK_=> ?_
 go_simp;refine(Us (l:=P) Kg Ab (HRR.out.later (Aa (w0:=w)).chg) HL.out hm (fun _ h=>h.elim) (fun x _ w1 _=>So x w1)).mono ?_;rintro e w6 ⟨f6,caps6,T6,rfl,_,hL6,hT6⟩;refine Yz hK_ ?_;clear hK_ K_;refine Yh 9 fun K_ hK_=> ?_
 (refine BM 12 (BL _ _ _ _ _) ?_;intro zc wb _ _ _)
 refine Yn hK_ ?_;clear hK_ K_;refine Yg 10 fun K_ hK_=> ?_
 go_simp;refine(DY (z:=zc) (hL5.later (Aa (w0:=w5)).chg (fun _ _ h=>h)) (hL6.later (Aa (w0:=w6)).chg (fun _ _ h=>h))).mono ?_;rintro e w7 ⟨f7,caps7,T7,rfl,_,hL7,hT7⟩;have hzc:w.heap.size≤zc:=(Aj.monoS (w0:=w) (Aj.of_born (z:=zc) 0)).out ⟨zc,0,none⟩ rfl;refine Yz hK_ ?_;clear hK_ K_;refine YS 11 ?_;refine Yd ?_
 all_goals
  go_wp2_with fail;go_ret;refine⟨f7,caps7,rfl,Aa,T7,hL7,fun x hx=> ?_⟩;rcases hT7 x hx with h|rfl|h|h
  ·exact .inl (Nat.le_trans (Aa (w0:=w)).chg.size h)
  ·exact .inl hzc
  ·rcases hT5 x h with h|rfl
   ·exact .inl (Nat.le_trans (Aa (w0:=w)).chg.size h)
   exact .inl hzb
  rcases hT6 x h with h|h|h
  ·exact .inl (Nat.le_trans (Aa (w0:=w)).chg.size h)
  ·exact .inr h
  exact h.elim
theorem Rb (P:List AE) (h:P.all Cd=true):(EJ P).length ≤40*P.length:=by
 induction P with
 |nil=>exact Nat.zero_le _
 |cons p P ih=>
  have e:EJ (p::P)=Kg p++EJ P:=rfl;rw[List.all_cons,Bool.and_eq_true] at h;have h1:=ih h.2;have h2:p.l.length≤12:=by
   have h3:=h.1;unfold Cd Bl at h3;simp only[Bool.and_eq_true,decide_eq_true_eq] at h3;exact h3.1.1.2
  have h3:=Dr p.l (by omega);have h4:=Az [p.v];rw[e,List.length_append,List.length_cons,Kg,List.length_append];simp only[List.length_cons,List.length_nil] at h4;omega
theorem Qb (v e0:Int) {A:Option Addr} {n c:Nat} {P:List AE} {w:World} [hr:HR w A (cellsOf P)] (hl:P.length=n) (hm:n≤9223372036854775807):
    Calls Tryz.prog 65 #[.int .i64 3, .agg #[.int .i64 v, .int .i64 e0, .slice A n c], .func (.func 66) #[] #[], .func (.func 67) #[] #[]] w (AR (BO v e0 P) (Ae [3]++(Ae [v,e0]++(Ae [(n:Int)]++EJ P))) w):=by
 have HRR:=Lib.hid hr.out;have HL:=Lib.hid hl;clear hl;unfold AR;rcases hb:BO v e0 P with _|_
 ·go_enter Tryz.func65,Tryz.ntmps65;go_wp2_with (first|(refine Bv 5 ?_;intro zt wzt _ _ _)|(refine Cp ?_));refine(LM v e0 (P:=P) HL.out hm).mono ?_;rw[hb];rintro e w5 ⟨rfl,_⟩;go_wp2_with fail
  go_ret2
  exact⟨Aa,rfl⟩
 have hb2:P.length≤16∧P.all Cd=true:=by
   have h9:=hb;unfold BO at h9;simp only[Bool.and_eq_true,decide_eq_true_eq] at h9;exact⟨h9.1.1.2,h9.1.2⟩
 have HP:=Lib.hid (Rb P hb2.2);have HP16:=Lib.hid hb2.1;clear hb2;go_enter Tryz.func65,Tryz.ntmps65;go_wp2_with (first|(refine Bv 5 ?_;intro zt wzt _ _ _)|(refine Cp ?_));refine(LM v e0 (P:=P) HL.out hm).mono ?_;rw[hb];rintro e w5 ⟨rfl,_⟩;go_wp2_with (first|(refine BB 10 ?_;intro zw wzw _ _ _));have hzw:=(inferInstance:HB wzw zw 195 #[.slice none 0 0]).out.lt;have n9:Nw w wzw:=inferInstance;have hzw0:w.heap.size≤zw:=(Aj.monoS (w0:=w) (Aj.of_born (z:=zw) 0)).out ⟨zw,0,none⟩ rfl;have hrz:HR wzw A (cellsOf P):=⟨HRR.out.later n9.out⟩;refine Ah ((only zw)) (by kernel_rfl) (fun wd _ _=> ?_);refine YS 0 ?_;refine YS 3 ?_;refine KW 4 ?_;refine Yh 1 fun K_ hK_=> ?_
 (refine BM 16 (AM _ _) ?_;intro zb wb _ _ _)
 refine Yn hK_ ?_;clear hK_ K_;refine Yg 2 fun K_ hK_=> ?_
 go_simp;refine(Ci (z:=zb) (vs:=[3]) rfl rfl (show 9*1≤1000000000 by decide)).mono ?_;rintro e w6 ⟨f6,caps6,T6,rfl,_,hL6,hT6⟩;have hzb:wzw.heap.size≤zb:=(Aj.monoS (w0:=wzw) (Aj.of_born (z:=zb) 0)).out ⟨zb,0,none⟩ rfl;refine Yz hK_ ?_;clear hK_ K_;refine Yg 5 fun K_ hK_=> ?_
 go_simp;refine(Qa v e0 (P:=P) HL.out (by have h8:=HP16.out;have h9:=HL.out;omega)).mono ?_;rintro e w7 ⟨f7,caps7,T7,rfl,_,hL7,hT7⟩;refine Yz hK_ ?_;clear hK_ K_;refine Yh 6 fun K_ hK_=> ?_
 (refine BM 21 (BL _ _ _ _ _) ?_;intro zc wb _ _ _)
 refine Yn hK_ ?_;clear hK_ K_;refine Yg 7 fun K_ hK_=> ?_
 go_simp;refine(DY (z:=zc) (hL6.later (Aa (w0:=w6)).chg (fun _ _ h=>h)) (hL7.later (Aa (w0:=w7)).chg (fun _ _ h=>h))).mono ?_;rintro e w8 ⟨f8,caps8,T8,rfl,_,hL8,hT8⟩;have hzc:wzw.heap.size≤zc:=(Aj.monoS (w0:=wzw) (Aj.of_born (z:=zc) 0)).out ⟨zc,0,none⟩ rfl;obtain⟨f9,caps9,he9,hent,hrun⟩:=hL8.run;injection he9 with e1 _ e2
 injection e1 with e1
 subst e1 e2;have hw8:Cz w8 zw none []:=⟨⟨0,0,rfl,(inferInstance:HB w8 zw 195 #[.slice none 0 0]).out,Cm.nil _ _ _⟩,fun ad h=>by cases h⟩;have hT: ∀x,Wf zw none x→¬T8 x:=by
  rintro x (rfl|⟨ad,e,_⟩) hx
  ·rcases hT8 _ hx with h|h|h|h
   ·have:=Nat.le_trans (Aa (w0:=wzw)).chg.size h;omega
   ·omega
   ·rcases hT6 _ h with h|h
    ·have:=Nat.le_trans (Aa (w0:=wzw)).chg.size h;omega
    omega
   rcases hT7 _ h with h|⟨hne,ad,e,hk⟩
   ·have:=Nat.le_trans (Aa (w0:=wzw)).chg.size h;omega
   have:=DC HRR.out hne e;omega
  cases e
 have hlen2:([]:List UInt8).length +(Ae [3]++(Ae [v,e0]++(Ae [(n:Int)]++EJ P))).length ≤1000000000:=by
  have a1:=Az [3];have a2:=Az [v,e0];have a3:=Az [(n:Int)];have a4:=HP.out;have a5:=HP16.out;simp only[List.length_append,List.length_cons,List.length_nil] at*;omega
 have HRUN:=Lib.hid (hrun w8 zw none [] (Au.refl _ _) hw8 hT hlen2);clear hrun;refine Yz hK_ ?_;clear hK_ K_;refine Yg 8 fun K_ hK_=> ?_
 go_simp;refine HRUN.out.mono ?_;rintro e w9 ⟨rfl,A9,hW9,hC9,hM9⟩;have st9:Ag (only zw) w8 w9:=⟨hC9.mono (fun x _ hx=>by
  rcases hx with h|⟨ad,e,_⟩
  ·exact h
  cases e)⟩
 refine Yz hK_ ?_;clear hK_ K_;refine Yd ?_;have n99:Nw w w9:=inferInstance;go_wp2_with fail;refine(JS zw A9 _ w9 hW9 (by rw[List.length_append];omega)).mono ?_;rintro e w10 ⟨A10,n10,c10,rfl,hn,ho,hc,hnew⟩;have st10:Ag Ab w9 w10:=⟨hc.out⟩;go_wp2_with fail
 go_ret2
 exact⟨Aa,A10,n10,c10,rfl,by have h9:=hn.out;simpa using h9,⟨ho.out⟩,⟨fun ad e=>Nat.le_trans n99.out.size (hnew.out ad e)⟩⟩
theorem Mv (v e0:Int) {A:Option Addr} {n c:Nat} {P:List AE} {w:World} [hr:HR w A (cellsOf P)] (hl:P.length=n) (hm:n≤9223372036854775807):
    Calls Tryz.prog 32 #[.agg #[.int .i64 v, .int .i64 e0, .slice A n c]] w (AR (BO v e0 P) (CY v e0 P) w):=by
 rw[CY,hl];unfold AR;rcases hb:BO v e0 P with _|_
 all_goals
  go_enter Tryz.func32,Tryz.ntmps32;go_wp2_with (first|(refine Bv 1 ?_;intro zt wzt _ _ _)|(refine Cp ?_));refine(Qb v e0 (P:=P) hl hm).mono ?_;rintro e w5 ⟨_,h5⟩;rw[hb] at h5
 ·obtain rfl:e=_:=h5;go_wp2_with fail
  go_ret2
  exact⟨Aa,rfl⟩
 obtain⟨A1,n1,c1,rfl,hn,hO,hA⟩:=h5;have HN:=Lib.hid hn;clear hn;go_wp2_with fail
 go_ret2
 exact⟨Aa,A1,n1,c1,rfl,by have h9:=HN.out;simpa using h9,hO,Aj.monoS hA⟩
end Go.Proofs.YtjjhceeookpieaaGreat
end
section
set_option maxRecDepth 100000
set_option maxHeartbeats 6400000
open Go Go.RowKit
namespace Go.Proofs.YtjjhceeookpieaaGreat
theorem Wv (P:List AE) (k:Nat) (h:k<P.length):EJ (P.take (k+1))=EJ (P.take k)++Kg (gt P k):=by
 rw[←List.take_append_getElem h,EJ,List.flatMap_append];simp[gt,List.getD_eq_getElem?_getD,h,EJ]
theorem Zk (l:List UInt8):(Al l).size =l.length:=List.size_toArray ..
def GL (P:List AE):Nat→Bool
 |0=>true
 |k+1=>GL P k&&(Cd (gt P k)&&(decide (k=0)||Nj (gt P (k -1)) (gt P k)))
theorem Ut (P:List AE): ∀k,k≤P.length→GL P k=((P.take k).all Cd&&GM P k)
 |0,_=>by simp[GL,GM]
 |k+1,h=>by
  have h1:(P.take (k+1)).all Cd=((P.take k).all Cd&&Cd (gt P k)):=by
   rw[←List.take_append_getElem (show k<P.length by omega),List.all_append];simp[gt,List.getD_eq_getElem?_getD,show k<P.length by omega]
  rw[GL,Ut P k (by omega),h1,GM];cases(P.take k).all Cd<;>cases GM P k<;>cases Cd (gt P k)<;>simp
theorem Uu (P:List AE) (k:Nat) (h:GL P k=false): ∀n,k≤n→GL P n=false
 |0,hn=>by
  obtain rfl:k=0:=by omega
  exact h
 |n+1,hn=>by
  by_cases e:k=n+1
  ·subst e;exact h
  rw[GL,Uu P k h n (by omega),Bool.false_and]
theorem Sp (v e:Int) (P:List AE):BO v e P=(BE v&&Ca e&&decide (P.length≤16)&&GL P P.length):=by
 rw[Ut P _ (Nat.le_refl _),List.take_length,BO,Bool.and_assoc _ (P.all Cd)]
theorem Kz (v e0:Int) {A:Option Addr} {n c:Nat} {P:List AE} {w:World} [hr:HR w A (cellsOf P)] (hl:P.length=n) (hmax:n≤1000000000) (hnm: ∀p∈P,p.l.length≤9223372036854775807):
    Calls Tryz.prog 205 #[.agg #[.int .i64 v, .int .i64 e0, .slice A n c]] w fun e w'=>e= .returned (.bool (BO v e0 P))∧Ag Ab w w':=by
 have HRR:=Lib.hid hr.out;have HL:=Lib.hid hl;have HNM:=Lib.hid hnm;have kb1:=AM e0;obtain⟨R,hR⟩: ∃R,R=BO v e0 P:=⟨_,rfl⟩;have hR2:=hR;rw[Sp,hl] at hR2;have HR0:=Lib.hid hR2;rw[←hR];clear hR hR2 hnm hl;go_enter Tryz.func205,Tryz.ntmps205;go_wp2_with (first|(refine Bv 1 ?_;intro zt wzt _ _ _));go_loopw [3] (fun iv wr=>∃k:Nat,k≤n∧iv= .int .i64 (k:Int)∧Hid (GL P k=true)∧Ag Ab w wr∧HB wr zt 39 #[.int .i64 v, .int .i64 e0, .slice A n c]) (fun iv _=>n -(intOf iv).toNat)
 case atStart=>exact⟨0,Nat.zero_le _,rfl,Lib.hid rfl,Aa,inferInstance⟩
 case round=>
  obtain⟨k,hk,rfl,HJ,st,ht⟩:=hrel;have nr:Nw w wr:=⟨st.chg⟩;have hrw:HR wr A (cellsOf P):=⟨HRR.out.later st.chg⟩;have hl:P.length=n:=HL.out;by_cases hlt:k<n
  ·have hltI:(k:Int)<n:=by omega
   have hkl:k<P.length:=by omega
   have hln:(Al (gt P k).l).size ≤9223372036854775807:=by rw[Zk];exact HNM.out _ (BD P k hkl)
   obtain⟨N1,hN1⟩: ∃N1,N1=Bl (gt P k).l :=⟨_,rfl⟩;have HN1:=Lib.hid hN1;obtain⟨V1,hV1⟩: ∃V1,V1=BE (gt P k).v :=⟨_,rfl⟩;have HV1:=Lib.hid hV1;have hpb:GL P (k+1)=((N1&&V1)&&(decide (k=0)||Nj (gt P (k -1)) (gt P k))):=by rw[GL,HJ.out,Bool.true_and,Cd,←hN1,←hV1]
   have HPB:=Lib.hid hpb;have HNO:Hid (GL P (k+1)=false→R=false):=Lib.hid (fun h=>by rw[HR0.out,Uu P (k+1) h n (by omega),Bool.and_false]);clear hN1 hV1 hpb;have hkp:k -1<P.length:=by omega
   cases N1
   case false=>
    have HF:Hid (R=false):=Lib.hid (HNO.out (by rw[HPB.out];simp));go_wp2_with (first|((with_reducible apply Ac);exact rfl;infer_instance;(first|(exact rfl)|(exact tg_hw _)|(exact tg_ctr _)|(exact tg_ecu _)|(exact srch_who)|exact srch_fd)));refine Ah (Ab) (by kernel_rfl) (fun wd _ _=> ?_);refine YS 0 ?_;refine' tk 1 _ rfl (by kernel_rfl) (by kernel_rfl) (by kernel_rfl) (fun _ _ _ h=>h) (yo (by rfl) fun w' _=> ?_) inferInstance ?_;rotate_left
    ·((apply Ai);exact rfl;infer_instance;infer_instance;(first|(exact rfl)|(exact tg_hw _)|(exact tg_ctr _)|(exact tg_ecu _)|(exact srch_who)|exact srch_fd))
    try simp only[Act.put,sA,sB,sC]
    refine YS 2 ?_;refine Gx 3 AE 37 ?_;refine Jh 4 101 Tryz.underlying101 ?_;refine' tk 5 _ rfl (by kernel_rfl) (by kernel_rfl) (by kernel_rfl) (fun _ _ _ h=>h) (yo (by rfl) fun w' _=> ?_) inferInstance ?_;rotate_left
    ·((apply(Cg (α:=AE)));infer_instance;exact rfl;infer_instance;exact rfl;(first|(with_reducible assumption)|omega|(focus (simp;done))|(focus (simp;omega;done))|decide);(first|(exact rfl)|(exact tg_hw _)|(exact tg_ctr _)|(exact tg_ecu _)|(exact srch_who)|exact srch_fd))
    try simp only[Act.put,sA,sB,sC]
    refine Yg 6 fun K_ hK_=> ?_
    go_simp;refine(AJ (Al (gt P k).l) (gt P k).l rfl hln _).mono ?_;rw[←HN1.out];rintro e w5 ⟨rfl,_⟩;refine Yz hK_ ?_;clear hK_ K_;refine YS 7 ?_;refine YS 8 ?_;refine YU 9 ?_;refine YU 10 ?_;refine YU 11 ?_;refine YU 12 ?_;refine YU 13 ?_;refine YU 14 ?_;refine YU 15 ?_;refine YU 16 ?_;refine YS 17 ?_;refine YS 18 ?_;refine YU 19 ?_;refine YU 20 ?_
    try simp only[FS1.out]
    refine YU 21 ?_;refine YU 22 ?_;refine YU 23 ?_;refine YU 24 ?_;refine YU 25 ?_
    try simp only[FS1.out]
    refine YU 26 ?_;refine YU 27 ?_;refine YU 28 ?_;refine YU 29 ?_;refine YU 30 ?_;refine YU 31 ?_;refine YU 32 ?_;refine YU 33 ?_;refine YU 34 ?_;refine YU 35 ?_
    try simp only[FS1.out]
    refine YU 36 ?_;refine YS 37 ?_;refine Yd ?_;go_wp2_with fail;go_ret;rw[HF.out];exact⟨rfl,Aa⟩
   cases V1
   case false=>
    have HF:Hid (R=false):=Lib.hid (HNO.out (by rw[HPB.out];simp));go_wp2_with (first|((with_reducible apply Ac);exact rfl;infer_instance;(first|(exact rfl)|(exact tg_hw _)|(exact tg_ctr _)|(exact tg_ecu _)|(exact srch_who)|exact srch_fd)));refine Ah (Ab) (by kernel_rfl) (fun wd _ _=> ?_);refine YS 0 ?_;refine' tk 1 _ rfl (by kernel_rfl) (by kernel_rfl) (by kernel_rfl) (fun _ _ _ h=>h) (yo (by rfl) fun w' _=> ?_) inferInstance ?_;rotate_left
    ·((apply Ai);exact rfl;infer_instance;infer_instance;(first|(exact rfl)|(exact tg_hw _)|(exact tg_ctr _)|(exact tg_ecu _)|(exact srch_who)|exact srch_fd))
    try simp only[Act.put,sA,sB,sC]
    refine YS 2 ?_;refine Gx 3 AE 37 ?_;refine Jh 4 101 Tryz.underlying101 ?_;refine' tk 5 _ rfl (by kernel_rfl) (by kernel_rfl) (by kernel_rfl) (fun _ _ _ h=>h) (yo (by rfl) fun w' _=> ?_) inferInstance ?_;rotate_left
    ·((apply(Cg (α:=AE)));infer_instance;exact rfl;infer_instance;exact rfl;(first|(with_reducible assumption)|omega|(focus (simp;done))|(focus (simp;omega;done))|decide);(first|(exact rfl)|(exact tg_hw _)|(exact tg_ctr _)|(exact tg_ecu _)|(exact srch_who)|exact srch_fd))
    try simp only[Act.put,sA,sB,sC]
    refine Yg 6 fun K_ hK_=> ?_
    go_simp;refine(AJ (Al (gt P k).l) (gt P k).l rfl hln _).mono ?_;rw[←HN1.out];rintro e w5 ⟨rfl,_⟩;refine Yz hK_ ?_;clear hK_ K_;refine YS 7 ?_;refine YS 8 ?_;refine YS 9 ?_;refine' tk 10 _ rfl (by kernel_rfl) (by kernel_rfl) (by kernel_rfl) (fun _ _ _ h=>h) (yo (by rfl) fun w' _=> ?_) inferInstance ?_;rotate_left
    ·((apply Ai);exact rfl;infer_instance;infer_instance;(first|(exact rfl)|(exact tg_hw _)|(exact tg_ctr _)|(exact tg_ecu _)|(exact srch_who)|exact srch_fd))
    try simp only[Act.put,sA,sB,sC]
    refine YS 11 ?_;refine Gx 12 AE 37 ?_;refine Jh 13 101 Tryz.underlying101 ?_;refine' tk 14 _ rfl (by kernel_rfl) (by kernel_rfl) (by kernel_rfl) (fun _ _ _ h=>h) (yo (by rfl) fun w' _=> ?_) inferInstance ?_;rotate_left
    ·((apply(Cg (α:=AE)));infer_instance;exact rfl;infer_instance;exact rfl;(first|(with_reducible assumption)|omega|(focus (simp;done))|(focus (simp;omega;done))|decide);(first|(exact rfl)|(exact tg_hw _)|(exact tg_ctr _)|(exact tg_ecu _)|(exact srch_who)|exact srch_fd))
    try simp only[Act.put,sA,sB,sC]
    refine Yg 15 fun K_ hK_=> ?_
    go_simp;refine(AX (gt P k).v _).mono ?_;rw[←HV1.out];rintro e w6 ⟨rfl,_⟩;refine Yz hK_ ?_;clear hK_ K_;refine YS 16 ?_;refine YS 17 ?_;refine YS 18 ?_;refine YU 19 ?_;refine YU 20 ?_
    try simp only[FS1.out]
    refine YU 21 ?_;refine YU 22 ?_;refine YU 23 ?_;refine YU 24 ?_;refine YU 25 ?_
    try simp only[FS1.out]
    refine YU 26 ?_;refine YU 27 ?_;refine YU 28 ?_;refine YU 29 ?_;refine YU 30 ?_;refine YU 31 ?_;refine YU 32 ?_;refine YU 33 ?_;refine YU 34 ?_;refine YU 35 ?_
    try simp only[FS1.out]
    refine YU 36 ?_;refine YS 37 ?_;refine Yd ?_;go_wp2_with fail;go_ret;rw[HF.out];exact⟨rfl,Aa⟩
   by_cases h0:k=0
   ·have hkI: ¬0<(k:Int):=by omega
    have hkN: ¬0<k:=by omega
    have HT:Hid (GL P (k+1)=true):=Lib.hid (by rw[HPB.out,decide_eq_true h0];simp);clear h0;go_wp2_with (first|((with_reducible apply Ac);exact rfl;infer_instance;(first|(exact rfl)|(exact tg_hw _)|(exact tg_ctr _)|(exact tg_ecu _)|(exact srch_who)|exact srch_fd)));refine Ah (Ab) (by kernel_rfl) (fun wd _ _=> ?_);refine YS 0 ?_;refine' tk 1 _ rfl (by kernel_rfl) (by kernel_rfl) (by kernel_rfl) (fun _ _ _ h=>h) (yo (by rfl) fun w' _=> ?_) inferInstance ?_;rotate_left
    ·((apply Ai);exact rfl;infer_instance;infer_instance;(first|(exact rfl)|(exact tg_hw _)|(exact tg_ctr _)|(exact tg_ecu _)|(exact srch_who)|exact srch_fd))
    try simp only[Act.put,sA,sB,sC]
    refine YS 2 ?_;refine Gx 3 AE 37 ?_;refine Jh 4 101 Tryz.underlying101 ?_;refine' tk 5 _ rfl (by kernel_rfl) (by kernel_rfl) (by kernel_rfl) (fun _ _ _ h=>h) (yo (by rfl) fun w' _=> ?_) inferInstance ?_;rotate_left
    ·((apply(Cg (α:=AE)));infer_instance;exact rfl;infer_instance;exact rfl;(first|(with_reducible assumption)|omega|(focus (simp;done))|(focus (simp;omega;done))|decide);(first|(exact rfl)|(exact tg_hw _)|(exact tg_ctr _)|(exact tg_ecu _)|(exact srch_who)|exact srch_fd))
    try simp only[Act.put,sA,sB,sC]
    refine Yg 6 fun K_ hK_=> ?_
    go_simp;refine(AJ (Al (gt P k).l) (gt P k).l rfl hln _).mono ?_;rw[←HN1.out];rintro e w5 ⟨rfl,_⟩;refine Yz hK_ ?_;clear hK_ K_;refine YS 7 ?_;refine YS 8 ?_;refine YS 9 ?_;refine' tk 10 _ rfl (by kernel_rfl) (by kernel_rfl) (by kernel_rfl) (fun _ _ _ h=>h) (yo (by rfl) fun w' _=> ?_) inferInstance ?_;rotate_left
    ·((apply Ai);exact rfl;infer_instance;infer_instance;(first|(exact rfl)|(exact tg_hw _)|(exact tg_ctr _)|(exact tg_ecu _)|(exact srch_who)|exact srch_fd))
    try simp only[Act.put,sA,sB,sC]
    refine YS 11 ?_;refine Gx 12 AE 37 ?_;refine Jh 13 101 Tryz.underlying101 ?_;refine' tk 14 _ rfl (by kernel_rfl) (by kernel_rfl) (by kernel_rfl) (fun _ _ _ h=>h) (yo (by rfl) fun w' _=> ?_) inferInstance ?_;rotate_left
    ·((apply(Cg (α:=AE)));infer_instance;exact rfl;infer_instance;exact rfl;(first|(with_reducible assumption)|omega|(focus (simp;done))|(focus (simp;omega;done))|decide);(first|(exact rfl)|(exact tg_hw _)|(exact tg_ctr _)|(exact tg_ecu _)|(exact srch_who)|exact srch_fd))
    try simp only[Act.put,sA,sB,sC]
    refine Yg 15 fun K_ hK_=> ?_
    go_simp;refine(AX (gt P k).v _).mono ?_;rw[←HV1.out];rintro e w6 ⟨rfl,_⟩;refine Yz hK_ ?_;clear hK_ K_;refine YS 16 ?_;refine YS 17 ?_;refine YS 18 ?_;refine YS 19 ?_;refine YS 20 ?_
    try simp only[FS1.out]
    refine YS 21 ?_;refine YU 22 ?_;refine YU 23 ?_;refine YU 24 ?_;refine YU 25 ?_
    try simp only[FS1.out]
    refine YU 26 ?_;refine YU 27 ?_;refine YU 28 ?_;refine YU 29 ?_;refine YU 30 ?_;refine YU 31 ?_;refine YU 32 ?_;refine YU 33 ?_;refine YU 34 ?_;refine YU 35 ?_
    try simp only[FS1.out]
    refine YS 36 ?_;refine YS 37 ?_;refine Yd ?_;go_wp2_with fail;exact⟨⟨k+1,by omega,by go_num,HT,Aa,inferInstance⟩,by simp[intOf];omega⟩
   have hkI:0<(k:Int):=by omega
   have hkN:0<k:=by omega
   have FS1:=Lib.hid (show IntKind.i64.wrap ((k:Int) -1)=((k -1:Nat):Int) by rw[IntKind.wrap_i64];omega);obtain⟨Z,hZ⟩: ∃Z,Z=Nj (gt P (k -1)) (gt P k):=⟨_,rfl⟩;have hge: ∀w,(binOp .geq 9 (.string (Al (gt P (k -1)).l)) (.string (Al (gt P k).l))).run Tryz.prog w= .ok (.bool (!Z)) w:=fun w=>by
    rw[hZ,Nj];simp[binOp,Op.stringOp,AI]
   have HZ:Hid (GL P (k+1)=Z):=Lib.hid (by rw[HPB.out,decide_eq_false h0,hZ];simp);clear hZ h0;cases Z
   case false=>
    have HF:Hid (R=false):=Lib.hid (HNO.out HZ.out);go_wp2_with (first|((with_reducible apply Ac);exact rfl;infer_instance;(first|(exact rfl)|(exact tg_hw _)|(exact tg_ctr _)|(exact tg_ecu _)|(exact srch_who)|exact srch_fd)));refine Ah (Ab) (by kernel_rfl) (fun wd _ _=> ?_);refine YS 0 ?_;refine' tk 1 _ rfl (by kernel_rfl) (by kernel_rfl) (by kernel_rfl) (fun _ _ _ h=>h) (yo (by rfl) fun w' _=> ?_) inferInstance ?_;rotate_left
    ·((apply Ai);exact rfl;infer_instance;infer_instance;(first|(exact rfl)|(exact tg_hw _)|(exact tg_ctr _)|(exact tg_ecu _)|(exact srch_who)|exact srch_fd))
    try simp only[Act.put,sA,sB,sC]
    refine YS 2 ?_;refine Gx 3 AE 37 ?_;refine Jh 4 101 Tryz.underlying101 ?_;refine' tk 5 _ rfl (by kernel_rfl) (by kernel_rfl) (by kernel_rfl) (fun _ _ _ h=>h) (yo (by rfl) fun w' _=> ?_) inferInstance ?_;rotate_left
    ·((apply(Cg (α:=AE)));infer_instance;exact rfl;infer_instance;exact rfl;(first|(with_reducible assumption)|omega|(focus (simp;done))|(focus (simp;omega;done))|decide);(first|(exact rfl)|(exact tg_hw _)|(exact tg_ctr _)|(exact tg_ecu _)|(exact srch_who)|exact srch_fd))
    try simp only[Act.put,sA,sB,sC]
    refine Yg 6 fun K_ hK_=> ?_
    go_simp;refine(AJ (Al (gt P k).l) (gt P k).l rfl hln _).mono ?_;rw[←HN1.out];rintro e w5 ⟨rfl,_⟩;refine Yz hK_ ?_;clear hK_ K_;refine YS 7 ?_;refine YS 8 ?_;refine YS 9 ?_;refine' tk 10 _ rfl (by kernel_rfl) (by kernel_rfl) (by kernel_rfl) (fun _ _ _ h=>h) (yo (by rfl) fun w' _=> ?_) inferInstance ?_;rotate_left
    ·((apply Ai);exact rfl;infer_instance;infer_instance;(first|(exact rfl)|(exact tg_hw _)|(exact tg_ctr _)|(exact tg_ecu _)|(exact srch_who)|exact srch_fd))
    try simp only[Act.put,sA,sB,sC]
    refine YS 11 ?_;refine Gx 12 AE 37 ?_;refine Jh 13 101 Tryz.underlying101 ?_;refine' tk 14 _ rfl (by kernel_rfl) (by kernel_rfl) (by kernel_rfl) (fun _ _ _ h=>h) (yo (by rfl) fun w' _=> ?_) inferInstance ?_;rotate_left
    ·((apply(Cg (α:=AE)));infer_instance;exact rfl;infer_instance;exact rfl;(first|(with_reducible assumption)|omega|(focus (simp;done))|(focus (simp;omega;done))|decide);(first|(exact rfl)|(exact tg_hw _)|(exact tg_ctr _)|(exact tg_ecu _)|(exact srch_who)|exact srch_fd))
    try simp only[Act.put,sA,sB,sC]
    refine Yg 15 fun K_ hK_=> ?_
    go_simp;refine(AX (gt P k).v _).mono ?_;rw[←HV1.out];rintro e w6 ⟨rfl,_⟩;refine Yz hK_ ?_;clear hK_ K_;refine YS 16 ?_;refine YS 17 ?_;refine YS 18 ?_;refine YS 19 ?_;refine YS 20 ?_
    try simp only[FS1.out]
    refine YS 21 ?_;refine YS 22 ?_;refine' tk 23 _ rfl (by kernel_rfl) (by kernel_rfl) (by kernel_rfl) (fun _ _ _ h=>h) (yo (by rfl) fun w' _=> ?_) inferInstance ?_;rotate_left
    ·((apply Ai);exact rfl;infer_instance;infer_instance;(first|(exact rfl)|(exact tg_hw _)|(exact tg_ctr _)|(exact tg_ecu _)|(exact srch_who)|exact srch_fd))
    try simp only[Act.put,sA,sB,sC]
    refine YS 24 ?_;refine YS 25 ?_
    try simp only[FS1.out]
    refine Gx 26 AE 37 ?_;refine Jh 27 101 Tryz.underlying101 ?_;refine' tk 28 _ rfl (by kernel_rfl) (by kernel_rfl) (by kernel_rfl) (fun _ _ _ h=>h) (yo (by rfl) fun w' _=> ?_) inferInstance ?_;rotate_left
    ·((apply(Cg (α:=AE)));infer_instance;exact rfl;infer_instance;exact rfl;(first|(with_reducible assumption)|omega|(focus (simp;done))|(focus (simp;omega;done))|decide);(first|(exact rfl)|(exact tg_hw _)|(exact tg_ctr _)|(exact tg_ecu _)|(exact srch_who)|exact srch_fd))
    try simp only[Act.put,sA,sB,sC]
    refine YS 29 ?_;refine' tk 30 _ rfl (by kernel_rfl) (by kernel_rfl) (by kernel_rfl) (fun _ _ _ h=>h) (yo (by rfl) fun w' _=> ?_) inferInstance ?_;rotate_left
    ·((apply Ai);exact rfl;infer_instance;infer_instance;(first|(exact rfl)|(exact tg_hw _)|(exact tg_ctr _)|(exact tg_ecu _)|(exact srch_who)|exact srch_fd))
    try simp only[Act.put,sA,sB,sC]
    refine YS 31 ?_;refine Gx 32 AE 37 ?_;refine Jh 33 101 Tryz.underlying101 ?_;refine' tk 34 _ rfl (by kernel_rfl) (by kernel_rfl) (by kernel_rfl) (fun _ _ _ h=>h) (yo (by rfl) fun w' _=> ?_) inferInstance ?_;rotate_left
    ·((apply(Cg (α:=AE)));infer_instance;exact rfl;infer_instance;exact rfl;(first|(with_reducible assumption)|omega|(focus (simp;done))|(focus (simp;omega;done))|decide);(first|(exact rfl)|(exact tg_hw _)|(exact tg_ctr _)|(exact tg_ecu _)|(exact srch_who)|exact srch_fd))
    try simp only[Act.put,sA,sB,sC]
    refine YS 35 ?_
    try simp only[FS1.out]
    refine YS 36 ?_;refine YS 37 ?_;refine Yd ?_;go_wp2_with fail;go_ret;rw[HF.out];exact⟨rfl,Aa⟩
   case true=>
    have HT:Hid (GL P (k+1)=true):=Lib.hid HZ.out;go_wp2_with (first|((with_reducible apply Ac);exact rfl;infer_instance;(first|(exact rfl)|(exact tg_hw _)|(exact tg_ctr _)|(exact tg_ecu _)|(exact srch_who)|exact srch_fd)));refine Ah (Ab) (by kernel_rfl) (fun wd _ _=> ?_);refine YS 0 ?_;refine' tk 1 _ rfl (by kernel_rfl) (by kernel_rfl) (by kernel_rfl) (fun _ _ _ h=>h) (yo (by rfl) fun w' _=> ?_) inferInstance ?_;rotate_left
    ·((apply Ai);exact rfl;infer_instance;infer_instance;(first|(exact rfl)|(exact tg_hw _)|(exact tg_ctr _)|(exact tg_ecu _)|(exact srch_who)|exact srch_fd))
    try simp only[Act.put,sA,sB,sC]
    refine YS 2 ?_;refine Gx 3 AE 37 ?_;refine Jh 4 101 Tryz.underlying101 ?_;refine' tk 5 _ rfl (by kernel_rfl) (by kernel_rfl) (by kernel_rfl) (fun _ _ _ h=>h) (yo (by rfl) fun w' _=> ?_) inferInstance ?_;rotate_left
    ·((apply(Cg (α:=AE)));infer_instance;exact rfl;infer_instance;exact rfl;(first|(with_reducible assumption)|omega|(focus (simp;done))|(focus (simp;omega;done))|decide);(first|(exact rfl)|(exact tg_hw _)|(exact tg_ctr _)|(exact tg_ecu _)|(exact srch_who)|exact srch_fd))
    try simp only[Act.put,sA,sB,sC]
    refine Yg 6 fun K_ hK_=> ?_
    go_simp;refine(AJ (Al (gt P k).l) (gt P k).l rfl hln _).mono ?_;rw[←HN1.out];rintro e w5 ⟨rfl,_⟩;refine Yz hK_ ?_;clear hK_ K_;refine YS 7 ?_;refine YS 8 ?_;refine YS 9 ?_;refine' tk 10 _ rfl (by kernel_rfl) (by kernel_rfl) (by kernel_rfl) (fun _ _ _ h=>h) (yo (by rfl) fun w' _=> ?_) inferInstance ?_;rotate_left
    ·((apply Ai);exact rfl;infer_instance;infer_instance;(first|(exact rfl)|(exact tg_hw _)|(exact tg_ctr _)|(exact tg_ecu _)|(exact srch_who)|exact srch_fd))
    try simp only[Act.put,sA,sB,sC]
    refine YS 11 ?_;refine Gx 12 AE 37 ?_;refine Jh 13 101 Tryz.underlying101 ?_;refine' tk 14 _ rfl (by kernel_rfl) (by kernel_rfl) (by kernel_rfl) (fun _ _ _ h=>h) (yo (by rfl) fun w' _=> ?_) inferInstance ?_;rotate_left
    ·((apply(Cg (α:=AE)));infer_instance;exact rfl;infer_instance;exact rfl;(first|(with_reducible assumption)|omega|(focus (simp;done))|(focus (simp;omega;done))|decide);(first|(exact rfl)|(exact tg_hw _)|(exact tg_ctr _)|(exact tg_ecu _)|(exact srch_who)|exact srch_fd))
    try simp only[Act.put,sA,sB,sC]
    refine Yg 15 fun K_ hK_=> ?_
    go_simp;refine(AX (gt P k).v _).mono ?_;rw[←HV1.out];rintro e w6 ⟨rfl,_⟩;refine Yz hK_ ?_;clear hK_ K_;refine YS 16 ?_;refine YS 17 ?_;refine YS 18 ?_;refine YS 19 ?_;refine YS 20 ?_
    try simp only[FS1.out]
    refine YS 21 ?_;refine YS 22 ?_;refine' tk 23 _ rfl (by kernel_rfl) (by kernel_rfl) (by kernel_rfl) (fun _ _ _ h=>h) (yo (by rfl) fun w' _=> ?_) inferInstance ?_;rotate_left
    ·((apply Ai);exact rfl;infer_instance;infer_instance;(first|(exact rfl)|(exact tg_hw _)|(exact tg_ctr _)|(exact tg_ecu _)|(exact srch_who)|exact srch_fd))
    try simp only[Act.put,sA,sB,sC]
    refine YS 24 ?_;refine YS 25 ?_
    try simp only[FS1.out]
    refine Gx 26 AE 37 ?_;refine Jh 27 101 Tryz.underlying101 ?_;refine' tk 28 _ rfl (by kernel_rfl) (by kernel_rfl) (by kernel_rfl) (fun _ _ _ h=>h) (yo (by rfl) fun w' _=> ?_) inferInstance ?_;rotate_left
    ·((apply(Cg (α:=AE)));infer_instance;exact rfl;infer_instance;exact rfl;(first|(with_reducible assumption)|omega|(focus (simp;done))|(focus (simp;omega;done))|decide);(first|(exact rfl)|(exact tg_hw _)|(exact tg_ctr _)|(exact tg_ecu _)|(exact srch_who)|exact srch_fd))
    try simp only[Act.put,sA,sB,sC]
    refine YS 29 ?_;refine' tk 30 _ rfl (by kernel_rfl) (by kernel_rfl) (by kernel_rfl) (fun _ _ _ h=>h) (yo (by rfl) fun w' _=> ?_) inferInstance ?_;rotate_left
    ·((apply Ai);exact rfl;infer_instance;infer_instance;(first|(exact rfl)|(exact tg_hw _)|(exact tg_ctr _)|(exact tg_ecu _)|(exact srch_who)|exact srch_fd))
    try simp only[Act.put,sA,sB,sC]
    refine YS 31 ?_;refine Gx 32 AE 37 ?_;refine Jh 33 101 Tryz.underlying101 ?_;refine' tk 34 _ rfl (by kernel_rfl) (by kernel_rfl) (by kernel_rfl) (fun _ _ _ h=>h) (yo (by rfl) fun w' _=> ?_) inferInstance ?_;rotate_left
    ·((apply(Cg (α:=AE)));infer_instance;exact rfl;infer_instance;exact rfl;(first|(with_reducible assumption)|omega|(focus (simp;done))|(focus (simp;omega;done))|decide);(first|(exact rfl)|(exact tg_hw _)|(exact tg_ctr _)|(exact tg_ecu _)|(exact srch_who)|exact srch_fd))
    try simp only[Act.put,sA,sB,sC]
    refine YS 35 ?_
    try simp only[FS1.out]
    refine YS 36 ?_;refine YS 37 ?_;refine Yd ?_;go_wp2_with fail;exact⟨⟨k+1,by omega,by go_num,HT,Aa,inferInstance⟩,by simp[intOf];omega⟩
  have hltI: ¬(k:Int)<n:=by omega
  have hkn:k=n:=by omega
  have HF:Hid (R=(BE v&&Ca e0&&decide (n≤16))):=Lib.hid (by rw[HR0.out,←hkn,HJ.out,Bool.and_true]);clear hkn HJ;cases h1:BE v
  case false=>
   go_wp2_with (first|((with_reducible apply Ac);exact rfl;infer_instance;(first|(exact rfl)|(exact tg_hw _)|(exact tg_ctr _)|(exact tg_ecu _)|(exact srch_who)|exact srch_fd)));refine(AX v _).mono ?_;rw[h1];rintro e w5 ⟨rfl,_⟩;go_wp2_with (first|go_skip);go_ret;rw[HF.out,h1];exact⟨rfl,Aa⟩
  case true=>
   cases h2:Ca e0
   case false=>
    go_wp2_with (first|((with_reducible apply Ac);exact rfl;infer_instance;(first|(exact rfl)|(exact tg_hw _)|(exact tg_ctr _)|(exact tg_ecu _)|(exact srch_who)|exact srch_fd)));refine(AX v _).mono ?_;rw[h1];rintro e w5 ⟨rfl,_⟩;go_wp2_with (first|(refine Ct ?_)|(refine WGB ?_)|(refine BM 55 (kb1 _) ?_;intro zb wb _ _ _)|(refine CG ?_)|((with_reducible apply Ac);exact rfl;infer_instance;(first|(exact rfl)|(exact tg_hw _)|(exact tg_ctr _)|(exact tg_ecu _)|(exact srch_who)|exact srch_fd)));have hr2:HR wb (some ⟨zb,0,none⟩) (Ic [e0]):=HR.ints1 (inferInstance:HB wb zb 3 #[.int .i64 e0]);refine(Dv (l:=[e0]) (n:=1) (c:=1) rfl (by decide)).mono ?_;rw[FK,h2];rintro e w6 ⟨rfl,_⟩;go_wp2_with (first|go_skip);go_ret;rw[HF.out,h1,h2];exact⟨rfl,Aa⟩
   case true=>
    by_cases h16:n≤16
    ·have h16I:(n:Int)≤16:=by omega
     have hd:decide (n≤16)=true:=decide_eq_true h16;go_wp2_with (first|((with_reducible apply Ac);exact rfl;infer_instance;(first|(exact rfl)|(exact tg_hw _)|(exact tg_ctr _)|(exact tg_ecu _)|(exact srch_who)|exact srch_fd)));refine(AX v _).mono ?_;rw[h1];rintro e w5 ⟨rfl,_⟩;go_wp2_with (first|(refine Ct ?_)|(refine WGB ?_)|(refine BM 55 (kb1 _) ?_;intro zb wb _ _ _)|(refine CG ?_)|((with_reducible apply Ac);exact rfl;infer_instance;(first|(exact rfl)|(exact tg_hw _)|(exact tg_ctr _)|(exact tg_ecu _)|(exact srch_who)|exact srch_fd)));have hr2:HR wb (some ⟨zb,0,none⟩) (Ic [e0]):=HR.ints1 (inferInstance:HB wb zb 3 #[.int .i64 e0]);refine(Dv (l:=[e0]) (n:=1) (c:=1) rfl (by decide)).mono ?_;rw[FK,h2];rintro e w6 ⟨rfl,_⟩;go_wp2_with (first|(refine Ct ?_)|(refine CG ?_)|((with_reducible apply Ac);exact rfl;infer_instance;(first|(exact rfl)|(exact tg_hw _)|(exact tg_ctr _)|(exact tg_ecu _)|(exact srch_who)|exact srch_fd)));go_ret;rw[HF.out,h1,h2,hd];exact⟨rfl,Aa⟩
    have h16I: ¬(n:Int)≤16:=by omega
    have hd:decide (n≤16)=false:=decide_eq_false h16;go_wp2_with (first|((with_reducible apply Ac);exact rfl;infer_instance;(first|(exact rfl)|(exact tg_hw _)|(exact tg_ctr _)|(exact tg_ecu _)|(exact srch_who)|exact srch_fd)));refine(AX v _).mono ?_;rw[h1];rintro e w5 ⟨rfl,_⟩;go_wp2_with (first|(refine Ct ?_)|(refine WGB ?_)|(refine BM 55 (kb1 _) ?_;intro zb wb _ _ _)|(refine CG ?_)|((with_reducible apply Ac);exact rfl;infer_instance;(first|(exact rfl)|(exact tg_hw _)|(exact tg_ctr _)|(exact tg_ecu _)|(exact srch_who)|exact srch_fd)));have hr2:HR wb (some ⟨zb,0,none⟩) (Ic [e0]):=HR.ints1 (inferInstance:HB wb zb 3 #[.int .i64 e0]);refine(Dv (l:=[e0]) (n:=1) (c:=1) rfl (by decide)).mono ?_;rw[FK,h2];rintro e w6 ⟨rfl,_⟩;go_wp2_with (first|(refine Ct ?_)|(refine CG ?_)|((with_reducible apply Ac);exact rfl;infer_instance;(first|(exact rfl)|(exact tg_hw _)|(exact tg_ctr _)|(exact tg_ecu _)|(exact srch_who)|exact srch_fd)));go_ret;rw[HF.out,h1,h2,hd];exact⟨by
     have h9: ¬((n:Int)≤16):=by omega
     simp[h9],Aa⟩
end Go.Proofs.YtjjhceeookpieaaGreat
end
