/- RlB -/
import Derived.Test.YtjjhceeookpieaaGreatUhZ
import Derived.Test.YtjjhceeookpieaaGreatUhRlA
import Derived.Test.YtjjhceeookpieaaGreatUhRpC
set_option maxRecDepth 100000
set_option maxHeartbeats 3200000
open Go Go.RowKit
namespace Go.Proofs.YtjjhceeookpieaaGreat
theorem AT.shape {w:World} {g:Nat} {t:TypeId} {cs:Array Value} (h:AT w g t cs):w.shape? g=some (t,cs.size):=by
 unfold World.shape?;unfold AT at h;rw[h]
theorem KS (A:Option Addr) (k c s:Nat) (h:k<c):Gs A k c s=DD A (k*s):=by
 unfold Gs;rw[if_neg (by omega)]
def Ik (L:List Ad) (k:Nat) (r:Ad):List Ad:=L.take k++r::L.drop k
theorem NF (L:List Ad) (k:Nat) (r:Ad) (h:k≤L.length):(Ik L k r).length =L.length+1:=by
 unfold Ik;rw[List.length_append,List.length_cons,List.length_take,List.length_drop];omega
theorem YR {L:List Ad} {k n:Nat} (r:Ad) (hl:L.length=n) (hk:k<n) (xs ys:List Value) (hx:xs.take (k*37)=cellsOf (L.take k)) (hxl:xs.length=(n+1)*37) (hy:ys=xs.take (k*37)++Af.enc r++xs.drop (k*37+1*37)):
    ys.take ((k+1)*37)++cellsOf (L.drop k)++ys.drop ((k+1)*37+(n -k)*37)=cellsOf (Ik L k r):=by
 have e1:ys.take ((k+1)*37)=cellsOf (L.take k)++Af.enc r:=by
  rw[hy,hx];refine List.take_left' ?_;rw[List.length_append,AB,Af.len,List.length_take];show min k L.length*37+37=_;omega
 have e2:ys.drop ((k+1)*37+(n -k)*37)=[]:=by
  refine List.drop_of_length_le ?_;have hr:(Af.enc r).length =37:=Af.len r;rw[hy,List.length_append,List.length_append,List.length_take,List.length_drop,hr,hxl];omega
 rw[e1,e2,List.append_nil,Ik,Er,List.append_assoc];rfl
theorem VV {L:List Ad} {k n:Nat} (r:Ad) (hl:L.length=n) (hk:k<n) (xs ys:List Value) (hx:xs=cellsOf L++ys) (hyl:ys.length=37) (zs:List Value) (hz:zs=xs.take ((k+1)*37)++cellsOf (L.drop k)++xs.drop ((k+1)*37+(n -k)*37)):
    zs.take (k*37)++Af.enc r++zs.drop (k*37+1*37)=cellsOf (Ik L k r):=by
 have hcl:(cellsOf L).length =n*37:=by rw[AB,hl];rfl
 have hxl:xs.length=(n+1)*37:=by rw[hx,List.length_append,hcl,hyl,Nat.succ_mul]
 have hdl:(cellsOf (L.drop k)).length =(n -k)*37:=by rw[AB,List.length_drop,hl];rfl
 have htl:(xs.take ((k+1)*37)).length =(k+1)*37:=by rw[List.length_take,hxl];omega
 have e1:zs.take (k*37)=cellsOf (L.take k):=by
  rw[hz,List.append_assoc,List.take_append_of_le_length (by rw[htl];omega),List.take_take,show min (k*37) ((k+1)*37)=k*37 by omega,hx,List.take_append_of_le_length (by rw[hcl];omega)];exact EF L k
 have e2:zs.drop (k*37+1*37)=cellsOf (L.drop k):=by
  rw[hz,show k*37+1*37=(k+1)*37 by omega,List.append_assoc,List.drop_left' htl,show xs.drop ((k+1)*37+(n -k)*37)=[] from List.drop_of_length_le (by rw[hxl];omega),List.append_nil]
 rw[e1,e2,Ik,Er,List.append_assoc];rfl
theorem OD {A:Option Addr} {n c k z:Nat} {L:List Ad} (r:Ad) {w:World} [ho:HO w 44 37 A n c (cellsOf L)] [hb:HB w z 44 (cellsOf [r]).toArray] (hl:L.length=n) (hn:n≤1000000) (hk:k≤n) (hz:As (An A) z):
    Calls Tryz.prog 25 #[.slice A n c, .int .i64 (k:Int), .slice (some ⟨z,0,none⟩) 1 1] w fun e w'=>∃A' c',e= .returned (.slice A' (n+1) c')∧Ag (An A) w w'∧HO w' 44 37 A' (n+1) c' (cellsOf (Ik L k r))∧Mc w A A'∧Hid (n+1≤c'):=by
 by_cases hkn:k=n
 ·subst hkn;have hbs:HR w (some ⟨z,0,none⟩) (cellsOf [r]):=HB.cells inferInstance;have e:Ik L k r=L++[r]:=by unfold Ik;rw[←hl,List.take_length,List.drop_length]
  rw[e];exact Wo r hl hn
 have hlt:k<n:=by omega
 have hcl:(cellsOf L).length =n*37:=by rw[AB,hl];rfl
 have hrl:(Af.enc r).length =37:=Af.len r;have hbr:cellsOf [r]=Af.enc r:=by simp[cellsOf]
 have hr1:Rd w (some ⟨z,0,none⟩) (Af.enc r):=by rw[←hbr];exact hb.rdL
 have hdl:(cellsOf (L.drop k)).length =(n -k)*37:=by rw[AB,List.length_drop,hl];rfl
 have hdR:Rd w (DD A (k*37)) (cellsOf (L.drop k)):=by
  have h:=ho.out.rd.drop (k*37);rw[show(cellsOf L).drop (k*37)=cellsOf (L.drop k) from Gr L k] at h;exact h
 have hcap:n≤c:=CN ho.out;have hne: ¬(k:Int)=(n:Int):=by omega
 have hc63:c≤9223372036854775807:=by
  rcases ho.out.form with⟨_,_,h,_⟩|⟨_,_,_,_,_,h,_⟩
  ·omega
  exact h
 have HNE:Hid (((k:Int)==(n:Int))=false):=Lib.hid ((by simpa using hne));have hcut:Rd w (Gs A k c 37) (cellsOf (L.drop k)):=by rw[KS A k c 37 (by omega)];exact hdR
 have HW:Hid (IntKind.i64.wrap ((k:Int)+1)=((k+1:Nat):Int)):=Lib.hid (by rw[IntKind.wrap_i64];omega);have hlen1:(Af.enc r).length =1*37:=by rw[hrl]
 have hone1: ∀v∈Af.enc r,v.oneCell'=true:=Af.one r;have honeD:=GX (L.drop k);have hzl:=hb.out.lt;have HCL:=Lib.hid hcl;clear hcl hbr hrl;by_cases hc:c<n+1
 ·have hcI:(c:Int)<(n:Int)+1:=by omega
  have e9:(n:Int)+1 -(k:Int)=((n+1 -k:Nat):Int):=by omega
  have hgz:c<k+(n+1 -k):=by omega
  have hlz:k+(n+1 -k)≤1000000000:=by omega
  have hn0:0<n:=by omega
  have hk0:0<n+1 -k:=by omega
  go_enter Tryz.func25,Tryz.ntmps25;go_wp2_with (first|((with_reducible apply(RV (i:=k) (kk:=n+1 -k)));exact rfl;exact rfl;infer_instance;exact Tryz.underlying3;exact ho.out;exact hk;exact hn0;exact hk0;exact hgz;exact hlz;(decide);intro G wG ys stG hoG hylG hgeG;have hrG:=hr1.later stG.chg;have hdG:=hcut.later stG.chg;have hsG:=stG.chg.size;have hkG:k<G:=(by omega);have hm1:min 1 (n+1 -k)=1:=(by omega);have hk1:k+1≤k+(n+1 -k):=(by omega))|((with_reducible apply(JV (k:=k) (m:=1) (cs:=Af.enc r)));exact rfl;exact rfl;infer_instance;exact hoG;exact⟨hrG⟩;exact hkG;exact hm1;exact hlen1;exact hk1;(decide);exact hone1;intro w2 st2 ho2)|((with_reducible apply NS);exact rfl;exact rfl;infer_instance;(first|(with_reducible assumption)|omega))|((with_reducible apply Li);exact rfl;exact rfl;infer_instance;(first|(with_reducible assumption)|omega)));have hd2:HR w2 (Gs A k c 37) (cellsOf (L.drop k)):=⟨hdG.chg st2.chg (fun hne ad e ⟨bd,e2,h⟩=>by
   have h1:=DC hcut hne e;injection e2 with e2
   subst e2;have h2:w.heap.size=ad.block:=h;omega)⟩
  have hmin2:min (n -k) (k+(n+1 -k) -(k+1))=n -k:=by omega
  have hkG1:k+1<G:=by omega
  have hkn2:k+1+(n -k)≤k+(n+1 -k):=by omega
  have hnk0:0<n -k:=by omega
  refine Ah ((An (some ⟨w.heap.size,0,none⟩))) (by kernel_rfl) (fun wd _ _=> ?_);refine YS 0 ?_;refine YS 1 ?_;refine YS 2 ?_;refine YS 3 ?_
  try simp only[HW.out]
  refine YSL 4 ?_;refine YS 5 ?_;refine YS 6 ?_;refine YSL 7 ?_;refine Yh 8 fun K_ hK_=> ?_
  (first|((with_reducible apply(JV (k:=k+1) (m:=n -k) (cs:=cellsOf (L.drop k))));exact rfl;exact rfl;infer_instance;infer_instance;infer_instance;exact hkG1;(omega);exact hdl;exact hkn2;exact hnk0;exact honeD;intro w3 st3 ho3)|((with_reducible apply Ia);exact Tryz.underlying55;(kernel_rfl);exact rfl;exact rfl;infer_instance;infer_instance;(first|(with_reducible assumption)|(with_reducible exact Ak.len _)|(focus (simp;done)));(first|(with_reducible assumption)|omega);(first|(with_reducible assumption)|omega|(focus (simp;done))|(focus (simp;omega;done))|decide);intro wc _ _))
  refine Yn hK_ ?_;clear hK_ K_;refine Yd ?_;go_wp2_with fail;go_ret;have e8:k+(n+1 -k)=n+1:=by omega
  have hxt:((cellsOf L).take (k*37)++ys).take (k*37)=cellsOf (L.take k):=by
   rw[List.take_left' (by rw[List.length_take,HCL.out];omega)];exact EF L k
  have hxl:((cellsOf L).take (k*37)++ys).length =(n+1)*37:=by
   rw[List.length_append,List.length_take,HCL.out,hylG];omega
  have hfin:=YR r hl hlt _ _ hxt hxl rfl;rw[hfin,e8] at ho3;have ab:Cn w (An (some (⟨w.heap.size,0,none⟩:Addr))):=⟨fun x ⟨ad,e,h⟩=>by
   injection e with e
   subst e;exact Nat.le_of_eq h⟩
  have hch:Au Ab w w3:=(Aa (w0:=w) (w:=w3)).chg;exact⟨some ⟨w.heap.size,0,none⟩,G,by rw[e8];rfl,⟨hch.mono (fun _ _ h=>h.elim)⟩,ho3,⟨.inr rfl⟩,Lib.hid (by omega)⟩
 have hcI: ¬(c:Int)<(n:Int)+1:=by omega
 have hn1c:n+1≤c:=by omega
 obtain⟨g,cur,hA,hbk,h3,h4,h5,h6⟩: ∃g cur,A=some ⟨g,0,none⟩∧AT w g 44 cur∧n≤c∧c≤maxLen∧cur.size=c*37∧cur.toList.take (n*37)=cellsOf L:=by
  rcases ho.out.form with⟨_,h1,_⟩|h
  ·omega
  exact h
 subst hA;have hsz0: ∀w,(sizeOf 44).run Tryz.prog w= .ok 37 w:=fun _=>by kernel_rfl
 have hgz:z≠g:=fun e=>hz.out ⟨_,rfl,e.symm⟩
 have hov: ∀lb cb,(callFunc 54 #[.slice (some ⟨z,0,none⟩) 1 1, .slice (Gs (some ⟨g,0,none⟩) (k+1) c 37) lb cb]).run Tryz.prog w= .ok (.value (.bool false)) w:=fun lb cb=>by
  have e1:Gs (some (⟨g,0,none⟩:Addr)) (k+1) c 37=some ⟨g,(k+1)*37,none⟩:=by rw[KS _ (k+1) c 37 (by omega),Dp,DQ]
  rw[e1,run_callFunc_extern Tryz.func54 (by kernel_rfl) (by kernel_rfl) (by kernel_rfl) (e:=Extern.SlicesOverlaps.overlaps #[63,63] #[4]) (by kernel_rfl),
   Lib.run_overlaps_apart w 63 4 44 Tryz.underlying63 37 hsz0 ⟨z,0,none⟩ ⟨g,(k+1)*37,none⟩ 1 1 lb cb hgz 44 44 _ cur.size (hb.out.shape) hbk.shape (by rw[h5];omega) (hb.out.frozen _) (hb.out.frozen _)]
  rfl
 obtain⟨ys,hyl,hoY⟩:=Aay ho.out hn1c (by decide);have hoY':HO w 44 37 (some ⟨g,0,none⟩) (n+1) c (cellsOf L++ys):=⟨hoY⟩;have hcut':HR w (Gs (some ⟨g,0,none⟩) k c 37) (cellsOf (L.drop k)):=⟨hcut⟩;have hrz:HR w (some ⟨z,0,none⟩) (Af.enc r):=⟨hr1⟩;have hkc1:k+1<c:=by omega
 have hkc:k<c:=by omega
 have hkn2:k+1+(n -k)≤n+1:=by omega
 have hkn1:k+1≤n+1:=by omega
 have hnk0:0<n -k:=by omega
 have ozz:BW (An (some ⟨g,0,none⟩)) (some ⟨z,0,none⟩):=⟨fun ad e ⟨bd,e2,h⟩=>by
  injection e with e
  injection e2 with e2
  subst e e2;exact hgz h.symm⟩
 have orz:Ff (An (some ⟨g,0,none⟩)) (some ⟨z,0,none⟩) (Af.enc r):=⟨fun _ ad e h=>ozz.out ad e h⟩;clear ho hb hdR hcut hr1;go_enter Tryz.func25,Tryz.ntmps25;go_wp2_with (first|((with_reducible apply NS);exact rfl;exact rfl;infer_instance;(first|(with_reducible assumption)|omega))|((with_reducible apply Li);exact rfl;exact rfl;infer_instance;(first|(with_reducible assumption)|omega)));refine Ah ((An (some ⟨g,0,none⟩))) (by kernel_rfl) (fun wd _ _=> ?_);refine YS 0 ?_;refine YS 1 ?_;refine YS 2 ?_;refine YS 3 ?_
 try simp only[HW.out]
 refine YSL 4 ?_;refine YS 5 ?_;refine YS 6 ?_;refine YSL 7 ?_;refine Yh 8 fun K_ hK_=> ?_
 (first|((with_reducible apply(JV (k:=k+1) (m:=n -k) (cs:=cellsOf (L.drop k))));exact rfl;exact rfl;infer_instance;infer_instance;infer_instance;exact hkc1;(omega);exact hdl;exact hkn2;exact hnk0;exact honeD;intro w3 st3 ho3)|((with_reducible apply Ia);exact Tryz.underlying55;(kernel_rfl);exact rfl;exact rfl;infer_instance;infer_instance;(first|(with_reducible assumption)|(with_reducible exact Ak.len _)|(focus (simp;done)));(first|(with_reducible assumption)|omega);(first|(with_reducible assumption)|omega|(focus (simp;done))|(focus (simp;omega;done))|decide);intro wc _ _))
 refine Yn hK_ ?_;clear hK_ K_;refine Yd ?_;have hrz3:HR w3 (some ⟨z,0,none⟩) (Af.enc r):=inferInstance;go_wp2_with (first|((with_reducible apply(JV (k:=k) (m:=1) (cs:=Af.enc r)));exact rfl;exact rfl;infer_instance;exact ho3;exact hrz3;exact hkc;(omega);exact hlen1;exact hkn1;(decide);exact hone1;intro w4 st4 ho4)|((with_reducible apply Li);exact rfl;exact rfl;infer_instance;(first|(with_reducible assumption)|omega)));go_ret;rw[VV r hl hlt _ ys rfl (by rw[hyl]) _ rfl] at ho4;exact⟨_,c,rfl,FA,ho4,⟨.inl rfl⟩,Lib.hid hn1c⟩
end Go.Proofs.YtjjhceeookpieaaGreat
