/- UhTgB, UhTgC, UhDrA, UhRpA, UhRpB -/
import Derived.Test.YtjjhceeookpieaaGreatUhZ
import Derived.Test.YtjjhceeookpieaaGreatUhSnA
import Derived.Test.YtjjhceeookpieaaGreatUhWnA
import Derived.Test.YtjjhceeookpieaaGreatUhTy
import Derived.Test.YtjjhceeookpieaaGreatUhSnB
section
set_option maxRecDepth 100000
set_option maxHeartbeats 3200000
open Go Go.RowKit
namespace Go.Proofs.YtjjhceeookpieaaGreat
theorem EQ: ∀a:List UInt8,Op.bytesLess a a=false
 |[]=>rfl
 |a::x=>by simp[Op.bytesLess,EQ x]
def DK (a b:Ad):Bool:=Op.bytesLess a.l b.l||(decide (a.l=b.l)&&Op.bytesLess a.ecu b.ecu)
def Fp (P:List Ad):Nat→Bool
 |0=>true
 |k+1=>Fp P k&&(decide (k=0)||DK (gt P (k -1)) (gt P k))
theorem Uw (P:List Ad) (k:Nat) (h:Fp P k=false): ∀n,k≤n→Fp P n=false
 |0,hn=>by
  obtain rfl:k=0:=by omega
  exact h
 |n+1,hn=>by
  by_cases e:k=n+1
  ·subst e;exact h
  rw[Fp,Uw P k h n (by omega),Bool.false_and]
theorem Fq (a b:List UInt8) (w:World):Calls Tryz.prog 100 #[.string (Al a), .string (Al b)] w fun e w'=>∃r:Int,e= .returned (.int .i64 r)∧((r<0↔Op.bytesLess a b=true)∧(r=0↔a=b))∧w'=w:=by
 cases hlt:Op.bytesLess a b
 case true=>
  have h1:Op.bytesLess (Al a).toList (Al b).toList =true:=by rw[AI,AI];exact hlt
  have hne:Hid (a≠b):=Lib.hid (fun h=>by rw[h,EQ] at hlt;cases hlt);go_enter Tryz.func100,Tryz.ntmps100;go_wp2_with fail;refine(CX _ _).mono ?_;rintro e w1 ⟨rfl,rfl⟩;go_wp2_with fail;refine(CX _ _).mono ?_;rintro e w1 ⟨rfl,rfl⟩;go_wp2_with fail;go_ret;exact⟨-1,rfl,⟨⟨fun _=>by first|trivial|rfl,fun _=>by decide⟩,⟨fun h=>absurd h (by decide),fun h=>absurd h hne.out⟩⟩,rfl⟩
 case false=>
  have h1:Op.bytesLess (Al a).toList (Al b).toList =false:=by rw[AI,AI];exact hlt
  obtain⟨G,hG⟩: ∃G,G= !(Op.bytesLess (Al a).toList (Al b).toList ||(Al a).toList ==(Al b).toList):=⟨_,rfl⟩;have h2: ∀w,(binOp .gtr 9 (.string (Al a)) (.string (Al b))).run Tryz.prog w= .ok (.bool G) w:=fun w=>by
   rw[hG];simp[binOp,Op.stringOp]
  have HG:Hid (G= !decide (a=b)):=Lib.hid (by
   rw[hG,AI,AI,hlt,Bool.false_or]
   congr 1
   rw[Bool.eq_iff_iff];simp)
  clear hG;cases G
  case false=>
   have hE:Hid (a=b):=Lib.hid (by simpa using HG.out);clear HG;go_enter Tryz.func100,Tryz.ntmps100;go_wp2_with fail;refine(CX _ _).mono ?_;rintro e w1 ⟨rfl,rfl⟩;go_wp2_with fail;refine(CX _ _).mono ?_;rintro e w1 ⟨rfl,rfl⟩;go_wp2_with fail;go_ret;refine⟨0,rfl,⟨⟨fun h=>absurd h (by decide),fun h=>by first|cases h|simp at h⟩,⟨fun _=>hE.out,fun _=>rfl⟩⟩,rfl⟩
  case true=>
   have hE:Hid (a≠b):=Lib.hid (by simpa using HG.out);clear HG;go_enter Tryz.func100,Tryz.ntmps100;go_wp2_with fail;refine(CX _ _).mono ?_;rintro e w1 ⟨rfl,rfl⟩;go_wp2_with fail;refine(CX _ _).mono ?_;rintro e w1 ⟨rfl,rfl⟩;go_wp2_with fail;go_ret;refine⟨1,rfl,⟨⟨fun h=>absurd h (by decide),fun h=>by first|cases h|simp at h⟩,⟨fun h=>absurd h (by decide),fun h=>absurd h hE.out⟩⟩,rfl⟩
theorem Nk (p q:Int) {z:Nat} {w:World} [hz:HB w z 3 #[.int .i64 p, .int .i64 q]]:
    Calls Tryz.prog 99 #[.slice (some ⟨z,0,none⟩) 2 2] w fun e w'=>e= .returned (.int .i64 (if p=0 then q else p))∧w'=w:=by
 have hr:HR w (some ⟨z,0,none⟩) [.int .i64 p, .int .i64 q]:=⟨by simpa using hz.rdL⟩;obtain⟨R,hR⟩: ∃R,R=if p=0 then q else p:=⟨_,rfl⟩;have HRR:=Lib.hid hR;rw[←hR];clear hR;go_enter Tryz.func99,Tryz.ntmps99;go_wp2_with fail;go_loopw [8] (fun iv wr=>∃k:Nat,k≤2∧iv= .int .i64 (k:Int)∧wr=w∧Hid (1≤k→p=0)∧Hid (2≤k→q=0)) (fun iv _=>2 -(intOf iv).toNat)
 case atStart=>exact⟨0,by decide,rfl,rfl,Lib.hid (fun h=>absurd h (by decide)),Lib.hid (fun h=>absurd h (by decide))⟩
 case round=>
  obtain⟨k,hk,rfl,rfl,h1,h2⟩:=hrel;rcases(show k=0∨k=1∨k=2 by omega) with rfl|rfl|rfl
  ·by_cases hp:p=0
   ·have hq:(p !=0)=false:=by simp[hp]
    have HP:=Lib.hid hp;clear hp;go_wp2_with (first|((with_reducible apply Ac);exact rfl;infer_instance;(first|(exact rfl)|(exact tg_hw _)|(exact tg_ctr _)|(exact tg_ecu _)|(exact srch_who)|exact srch_fd)));exact⟨⟨1,by decide,by first|rfl|trivial,by first|rfl|trivial,Lib.hid (fun _=>HP.out),Lib.hid (fun h=>absurd h (by decide))⟩,by simp[intOf]⟩
   have hq:(p !=0)=true:=by simp[hp]
   have HF:Hid (R=p):=Lib.hid (by rw[HRR.out,if_neg hp]);clear hp;go_wp2_with (first|((with_reducible apply Ac);exact rfl;infer_instance;(first|(exact rfl)|(exact tg_hw _)|(exact tg_ctr _)|(exact tg_ecu _)|(exact srch_who)|exact srch_fd)));go_ret;rw[HF.out];exact⟨rfl,rfl⟩
  ·have hF0:R=q:=by rw[HRR.out,if_pos (h1.out (by decide))]
   have HF:=Lib.hid hF0;have HP0:=Lib.hid (h1.out (by decide));clear hF0;by_cases hp:q=0
   ·have hq:(q !=0)=false:=by simp[hp]
    have HP:=Lib.hid hp;clear hp;go_wp2_with (first|((with_reducible apply Ac);exact rfl;infer_instance;(first|(exact rfl)|(exact tg_hw _)|(exact tg_ctr _)|(exact tg_ecu _)|(exact srch_who)|exact srch_fd)));exact⟨⟨2,by decide,by first|rfl|trivial,by first|rfl|trivial,Lib.hid (fun _=>HP0.out),Lib.hid (fun _=>HP.out)⟩,by simp[intOf]⟩
   have hq:(q !=0)=true:=by simp[hp]
   clear hp;go_wp2_with (first|((with_reducible apply Ac);exact rfl;infer_instance;(first|(exact rfl)|(exact tg_hw _)|(exact tg_ctr _)|(exact tg_ecu _)|(exact srch_who)|exact srch_fd)));go_ret;rw[HF.out];exact⟨rfl,rfl⟩
  have HF:Hid (R=0):=Lib.hid (by rw[HRR.out,if_pos (h1.out (by decide)),h2.out (by decide)]);go_wp2_with fail;go_ret;rw[HF.out];exact⟨rfl,rfl⟩
theorem JF (a b:Ad) (w:World):Calls Tryz.prog 120 #[.agg (Af.enc a).toArray, .agg (Af.enc b).toArray] w fun e w'=>∃r:Int,e= .returned (.int .i64 r)∧(r<0↔DK a b=true)∧Ag Ab w w':=by
 have hsa:(Af.enc a).toArray.size =37:=DB a;have hsb:(Af.enc b).toArray.size =37:=DB b;have hoa:=AY a;have hob:=AY b;go_enter Tryz.func120,Tryz.ntmps120;go_wp2_with (first|(refine Bv 2 ?_;intro za wza _ _ _)|(refine Bv 3 ?_;intro zb wzb _ _ _));have hA:HB wzb za 44 (Af.enc a).toArray :=inferInstance;have hB:HB wzb zb 44 (Af.enc b).toArray :=inferInstance;refine Ah (Ab) (by kernel_rfl) (fun wd _ _=> ?_);refine YS 0 ?_;refine IS 1 0 (Dn _) ?_;refine YS 2 ?_;refine IS 3 0 (Dn _) ?_;refine YS 5 ?_;refine IS 6 36 (EK _) ?_;refine YS 7 ?_;refine IS 8 36 (EK _) ?_;refine Yg 4 fun K_ hK_=> ?_
 go_simp;refine(Fq a.l b.l _).mono ?_;rintro e w5 ⟨r1,rfl,hr1,rfl⟩;have HR1:=Lib.hid hr1;clear hr1;refine Yz hK_ ?_;clear hK_ K_;refine Yg 9 fun K_ hK_=> ?_
 go_simp;refine(Fq a.ecu b.ecu _).mono ?_;rintro e w6 ⟨r2,rfl,hr2,rfl⟩;have HR2:=Lib.hid hr2;clear hr2;refine Yz hK_ ?_;clear hK_ K_;refine Yh 10 fun K_ hK_=> ?_
 (first|(refine BM 15 (GR _ _ _) ?_;intro zs wb _ _ _))
 refine Yn hK_ ?_;clear hK_ K_;refine Yg 11 fun K_ hK_=> ?_
 go_simp;refine(Nk r1 r2).mono ?_;obtain⟨R0,hR0⟩: ∃R,R=(if r1=0 then r2 else r1):=⟨_,rfl⟩;rw[←hR0];have HR0:=Lib.hid hR0;clear hR0;rintro e w7 ⟨rfl,rfl⟩;refine Yz hK_ ?_;clear hK_ K_;refine YS 12 ?_;refine Yd ?_;go_wp2_with fail;go_ret;refine⟨_,rfl, ?_,Aa⟩;rw[DK,HR0.out];by_cases h0:r1=0
 ·rw[if_pos h0,HR2.out.1];have h1:=HR1.out.2.1 h0;rw[h1,EQ];simp
 rw[if_neg h0,HR1.out.1];have h1:a.l≠b.l:=fun h=>h0 (HR1.out.2.2 h)
 simp[h1]
theorem Ww (k:Ad) {w:World} {zi:Nat} {t:TypeId} [hz:HB w zi t #[.func (.func 118) #[] #[]]]:
    Calls Tryz.prog 184 #[.agg (Af.enc k).toArray, .pointer (some ⟨zi,0,none⟩)] w fun e w'=>e= .returned (.bool (!DX k))∧Ag Ab w w':=by
 have hsz:=Ms k (n:=Af.size Ad) rfl;have hon:=AY k;go_enter Tryz.func184,Tryz.ntmps184;go_wp2_with (first|(refine Bv 2 ?_;intro zk wzk _ _ _)|(refine Cp ?_)|((with_reducible apply Ac);exact rfl;infer_instance;(first|(exact rfl)|(exact tg_hw _)|(exact tg_ctr _)|(exact tg_ecu _)|(exact srch_who)|exact srch_fd)));refine(Pb k _).mono ?_;rintro e w5 ⟨rfl,_⟩;go_wp2_with fail;go_ret;exact⟨rfl,Aa⟩
theorem Wx {A:Option Addr} {n c zi:Nat} {t:TypeId} {K:List Ad} {w:World} [hr:HR w A (cellsOf K)] [hz:HB w zi t #[.func (.func 118) #[] #[]]] (hl:K.length=n) (hmax:n≤9223372036854775807):
    Calls Tryz.prog 218 #[.slice A n c, .func (.func 184) #[] #[.pointer (some ⟨zi,0,none⟩)]] w fun e w'=>∃r:Int,e= .returned (.int .i64 r)∧(0≤r↔K.any (fun k=>!DX k)=true)∧Ag Ab w w':=by
 have HL:=Lib.hid hl;obtain⟨R,hR⟩: ∃R,R=K.any (fun k=>!DX k):=⟨_,rfl⟩;rw[←hR];have HRR:=Lib.hid hR;clear hR;go_enter Tryz.func218,Tryz.ntmps218;go_wp2_with fail;go_loopw [8] (fun kv wr=>∃k:Nat,k≤n∧kv= .int .i64 (k:Int)∧Hid ((K.take k).any (fun k=>!DX k)=false)∧Ag Ab w wr) (fun kv _=>n -(intOf kv).toNat)
 case atStart=>exact⟨0,Nat.zero_le _,rfl,Lib.hid rfl,Aa⟩
 case round=>
  obtain⟨k,hk,rfl,HJ,_⟩:=hrel;by_cases hlt:k<n
  ·have hltI:(k:Int)<n:=by omega
   have hkl:k<K.length:=by omega
   have hmem:gt K k∈K:=BD K k hkl;have hts:(K.take (k+1)).any (fun k=>!DX k)=((K.take k).any (fun k=>!DX k)||!DX (gt K k)):=by
    rw[←List.take_append_getElem hkl,List.any_append];simp[gt,List.getD_eq_getElem?_getD,hkl]
   obtain⟨V,hV⟩: ∃V,V=DX (gt K k):=⟨_,rfl⟩;rw[HJ.out,Bool.false_or,←hV] at hts;have HV:=Lib.hid hV;have HTS:=Lib.hid hts;have HAL:Hid (V=false→R=true):=Lib.hid (fun h=>by rw[HRR.out];exact List.any_eq_true.2 ⟨_,hmem,by rw[←hV,h];rfl⟩);clear hmem hts hV;go_wp2_with (first|(refine Ja Ad 63 ?_)|(refine Rk Ad 44 ?_));refine(Ww (gt K k)).mono ?_;rw[←HV.out];rintro e w1 ⟨rfl,_⟩;cases V with
   |false=>
    have HAR:Hid (R=true):=Lib.hid (HAL.out rfl);clear HAL;go_wp2_with fail;go_ret;exact⟨_,rfl,⟨fun _=>HAR.out,fun _=>by omega⟩,Aa⟩
   |true=>
    go_wp2_with fail;exact⟨⟨k+1,by omega,by go_num,HTS,Aa⟩,by simp[intOf];omega⟩
  have hltI: ¬(k:Int)<n:=by omega
  have HF:Hid (R=false):=Lib.hid (by
   have h1:=HJ.out;rw[HRR.out];rwa[List.take_of_length_le (by omega)] at h1)
  go_wp2_with fail;go_ret;refine⟨_,rfl,⟨fun h=>by simp at h,fun h=> ?_⟩,Aa⟩;rw[HF.out] at h;cases h
theorem Ux {A:Option Addr} {n c zi:Nat} {t:TypeId} {K:List Ad} {w:World} [hr:HR w A (cellsOf K)] [hz:HB w zi t #[.func (.func 118) #[] #[]]] (hl:K.length=n) (hmax:n≤9223372036854775807):
    Calls Tryz.prog 183 #[.slice A n c, .func (.func 184) #[] #[.pointer (some ⟨zi,0,none⟩)]] w fun e w'=>e= .returned (.bool (K.any (fun k=>!DX k)))∧Ag Ab w w':=by
 go_enter Tryz.func183,Tryz.ntmps183;go_wp2_with fail;refine(Wx (K:=K) hl hmax).mono ?_;rintro e w1 ⟨r,rfl,hr,_⟩;have hd:decide (0≤r)=K.any (fun k=>!DX k):=by rw[Bool.eq_iff_iff,decide_eq_true_eq];exact hr
 have HD:=Lib.hid hd;clear hd hr;go_wp2_with fail;go_ret;refine⟨?_,Aa⟩;rw[←HD.out];rfl
theorem Wy {A:Option Addr} {n c:Nat} {K:List Ad} {w:World} [hr:HR w A (cellsOf K)] (hl:K.length=n) (hmax:n≤9223372036854775807):
    Calls Tryz.prog 117 #[.slice A n c, .func (.func 118) #[] #[]] w fun e w'=>e= .returned (.bool (K.all DX))∧Ag Ab w w':=by
 have hd:(!K.any (fun k=>!DX k))=K.all DX:=by simp[List.all_eq_not_any_not]
 have HD:=Lib.hid hd;clear hd;go_enter Tryz.func117,Tryz.ntmps117;go_wp2_with (first|((with_reducible apply(Dd (dst:=some 3) (cs:=#[.func (.func 118) #[] #[]])));exact rfl;exact rfl;intro bl wbl _ _ _));refine(Ux (K:=K) hl hmax).mono ?_;rintro e w5 ⟨rfl,_⟩;go_wp2_with fail;go_ret;refine⟨?_,Aa⟩;rw[←HD.out];rfl
theorem Uy {A:Option Addr} {n c:Nat} {P:List Ad} {w:World} [hr:HR w A (cellsOf P)] (hl:P.length=n) (hmax:n≤9223372036854775807):
    Calls Tryz.prog 119 #[.slice A n c, .func (.func 120) #[] #[]] w fun e w'=>e= .returned (.bool (Fp P P.length))∧Ag Ab w w':=by
 obtain⟨R,hR⟩: ∃R,R=Fp P P.length:=⟨_,rfl⟩;have HR0:=Lib.hid hR;rw[←hR];clear hR;go_enter Tryz.func119,Tryz.ntmps119;go_wp2_with fail;go_loopw [5] (fun iv wr=>∃k:Nat,1≤k∧k≤max n 1∧iv= .int .i64 (k:Int)∧Hid (Fp P k=true)∧Ag Ab w wr) (fun iv _=>n -(intOf iv).toNat)
 case atStart=>exact⟨1,Nat.le_refl _,Nat.le_max_right _ _,rfl,Lib.hid rfl,Aa⟩
 case round=>
  obtain⟨k,h1,hk,rfl,HJ,st⟩:=hrel;have nr:Nw w wr:=⟨st.chg⟩;have hrw:HR wr A (cellsOf P):=inferInstance;by_cases hlt:k<n
  ·have hltI:(k:Int)<n:=by omega
   have hkl:k<P.length:=by omega
   have FS1:=Lib.hid (show IntKind.i64.wrap ((k:Int) -1)=((k -1:Nat):Int) by rw[IntKind.wrap_i64];omega);have hkp:k -1<P.length:=by omega
   have hts:Fp P (k+1)=DK (gt P (k -1)) (gt P k):=by rw[Fp,HJ.out,Bool.true_and,decide_eq_false (by omega),Bool.false_or]
   obtain⟨V,hV⟩: ∃V,V=DK (gt P (k -1)) (gt P k):=⟨_,rfl⟩;rw[←hV] at hts;have HV:=Lib.hid hV;have HTS:=Lib.hid hts;have HNO:Hid (V=false→R=false):=Lib.hid (fun h=>by rw[HR0.out];exact Uw P (k+1) (by rw[hts,h]) _ (by omega));clear hts hV;go_wp2_with fail;refine Ah (Ab) (by kernel_rfl) (fun wd _ _=> ?_);refine YS 0 ?_;refine YS 1 ?_;refine YS 2 ?_;refine YS 3 ?_
   try simp only[FS1.out]
   refine Gx 4 Ad 63 ?_;refine Vc 5 Ad 44 ?_;refine YS 6 ?_;refine YS 7 ?_;refine Gx 8 Ad 63 ?_;refine Vc 9 Ad 44 ?_;refine Yg 10 fun K_ hK_=> ?_
   go_simp;refine(JF (gt P (k -1)) (gt P k) _).mono ?_;rw[←HV.out];rintro e w5 ⟨r,rfl,hrr,_⟩;refine Yz hK_ ?_;clear hK_ K_;refine YS 11 ?_
   try simp only[FS1.out]
   refine Yd ?_;cases V
   case false=>
    have hr0:0≤r:=by
     by_cases h:r<0
     ·exact absurd (hrr.1 h) (by decide)
     omega
    have HF:Hid (R=false):=Lib.hid (HNO.out rfl);clear HNO hrr;go_wp2_with fail;go_ret;rw[HF.out];exact⟨rfl,Aa⟩
   case true=>
    have hr0: ¬0≤r:=by
     have:=hrr.2 rfl;omega
    clear HNO hrr;go_wp2_with fail;exact⟨⟨k+1,by omega,by omega,by go_num,HTS,Aa⟩,by simp[intOf];omega⟩
  have hltI: ¬(k:Int)<n:=by omega
  have HF:Hid (R=true):=Lib.hid (by
   rw[HR0.out,hl];rcases Nat.eq_zero_or_pos n with h0|h0
   ·rw[h0];rfl
   have:k=n:=by omega
   rw[←this];exact HJ.out)
  go_wp2_with fail;go_ret;rw[HF.out];exact⟨rfl,Aa⟩
end Go.Proofs.YtjjhceeookpieaaGreat
end
section
set_option maxRecDepth 100000
set_option maxHeartbeats 6400000
open Go Go.RowKit
namespace Go.Proofs.YtjjhceeookpieaaGreat
def NL (t:Ad):List UInt8:=Ap t.l++(Ae [t.size]++(t.sum.l++(Ap t.hw++(Ae [t.ctr]++Ap t.ecu))))
theorem Ee (f1 f2 f3 f4 f5 f6:FuncId) (c1 c2 c3 c4 c5 c6:Array Value) (w:World):(Instr.buildSlice 258 6 #[(0, .func (.func f1) #[] c1),(1, .func (.func f2) #[] c2),(2, .func (.func f3) #[] c3),(3, .func (.func f4) #[] c4),(4, .func (.func f5) #[] c5),(5, .func (.func f6) #[] c6)]).run Tryz.prog w= .ok (.slice (some ⟨w.heap.size,0,none⟩) 6 6) (w.alloc (.cells #[.func (.func f1) #[] c1, .func (.func f2) #[] c2, .func (.func f3) #[] c3, .func (.func f4) #[] c4, .func (.func f5) #[] c5, .func (.func f6) #[] c6] 197)):=by kernel_rfl
theorem ET {z c:Nat} {f1 f2 f3 f4 f5 f6:FuncId} {c1 c2 c3 c4 c5 c6:Array Value} {T1 T2 T3 T4 T5 T6:Nat→Prop} {y1 y2 y3 y4 y5 y6:List UInt8} {w:World} {t:TypeId} [h:HB w z t #[.func (.func f1) #[] c1, .func (.func f2) #[] c2, .func (.func f3) #[] c3, .func (.func f4) #[] c4, .func (.func f5) #[] c5, .func (.func f6) #[] c6]]
    (h1:EV w T1 (.func (.func f1) #[] c1) y1) (h2:EV w T2 (.func (.func f2) #[] c2) y2) (h3:EV w T3 (.func (.func f3) #[] c3) y3) (h4:EV w T4 (.func (.func f4) #[] c4) y4) (h5:EV w T5 (.func (.func f5) #[] c5) y5) (h6:EV w T6 (.func (.func f6) #[] c6) y6):
    Calls Tryz.prog 107 #[.slice (some ⟨z,0,none⟩) 6 c] w fun e w'=>∃f caps T,e= .returned (.func (.func f) #[] caps)∧Ag Ab w w'∧EV w' T (.func (.func f) #[] caps) (y1++(y2++(y3++(y4++(y5++y6)))))∧∀x,T x→w.heap.size≤x∨x=z∨T1 x∨T2 x∨T3 x∨T4 x∨T5 x∨T6 x:=by
 have hr:=h.rdL;refine(IN (A2:=some ⟨z,0,none⟩) (c:=c) (l:=[⟨_,T1,y1⟩,⟨_,T2,y2⟩,⟨_,T3,y3⟩,⟨_,T4,y4⟩,⟨_,T5,y5⟩,⟨_,T6,y6⟩]) hr rfl (show 6≤1000000000 by decide) ?_).mono ?_
 ·intro f hf;simp only[List.mem_cons,List.not_mem_nil,or_false] at hf;rcases hf with rfl|rfl|rfl|rfl|rfl|rfl
  ·exact h1
  ·exact h2
  ·exact h3
  ·exact h4
  ·exact h5
  exact h6
 rintro e w' ⟨f,caps,T,rfl,hs,hL,hT⟩;refine⟨f,caps,T,rfl,hs, ?_,fun x hx=> ?_⟩
 ·have e2:ER [⟨Value.func (.func f1) #[] c1,T1,y1⟩,⟨Value.func (.func f2) #[] c2,T2,y2⟩,⟨Value.func (.func f3) #[] c3,T3,y3⟩,⟨Value.func (.func f4) #[] c4,T4,y4⟩,⟨Value.func (.func f5) #[] c5,T5,y5⟩,⟨Value.func (.func f6) #[] c6,T6,y6⟩]=y1++(y2++(y3++(y4++(y5++y6)))):=by simp[ER]
  rwa[e2] at hL
 rcases hT x hx with h|⟨_,ad,e,hk⟩|⟨f,hf,hk⟩
 ·exact .inl h
 ·injection e with e
  subst e;exact .inr (.inl hk.symm)
 simp only[List.mem_cons,List.not_mem_nil,or_false] at hf;rcases hf with rfl|rfl|rfl|rfl|rfl|rfl
 ·exact .inr (.inr (.inl hk))
 ·exact .inr (.inr (.inr (.inl hk)))
 ·exact .inr (.inr (.inr (.inr (.inl hk))))
 ·exact .inr (.inr (.inr (.inr (.inr (.inl hk)))))
 ·exact .inr (.inr (.inr (.inr (.inr (.inr (.inl hk))))))
 exact .inr (.inr (.inr (.inr (.inr (.inr (.inr hk))))))
theorem IY (t:Ad) (w:World):
    Calls Tryz.prog 127 #[.agg (Af.enc t).toArray] w (AF w (NL t) Ab):=by
 have hsz:(Af.enc t).toArray.size =37:=DB t;have hon:=AY t;unfold AF;go_enter Tryz.func127,Tryz.ntmps127;go_wp2_with (first|(refine Bv 1 ?_;intro zt wzt _ _ _));have hwz:=(Aa (w0:=w) (w:=wzt)).chg.size;refine Ah (Ab) (by kernel_rfl) (fun wd _ _=> ?_);refine YS 0 ?_;refine IS 1 0 (Dn _) ?_;refine YS 3 ?_;refine IS 4 1 (El _) ?_;refine YS 7 ?_;refine' tk 8 _ rfl (by kernel_rfl) (by kernel_rfl) (by kernel_rfl) (fun _ _ _ h=>h) (yo (by rfl) fun w' _=> ?_) inferInstance ?_;rotate_left
 ·((apply Ab6);exact rfl;infer_instance;infer_instance;exact Sq _;exact SN _;(decide))
 try simp only[Act.put,sA,sB,sC]
 refine YS 10 ?_;refine IS 11 34 (Gg _) ?_;refine YS 13 ?_;refine IS 14 35 (IK _) ?_;refine YS 17 ?_;refine IS 18 36 (EK _) ?_;refine wpAnyH_ready (rs:=[2,5,15]) (by kernel_rfl) (by simp) (AllReadyH.cons rfl (fun K_ hK_=> ?_) (AllReadyH.cons rfl (fun K_ hK_=> ?_) (AllReadyH.cons rfl (fun K_ hK_=> ?_) AllReadyH.nil)))
 focus
  go_simp;refine(AD (Al t.l) t.l rfl _).mono ?_;rintro e w5 ⟨f5,caps5,T5,rfl,_,hL5,hT5⟩;refine Yz hK_ ?_;clear hK_ K_;refine wpAnyH_ready (rs:=[5,15]) (by kernel_rfl) (by simp) (AllReadyH.cons rfl (fun K_ hK_=> ?_) (AllReadyH.cons rfl (fun K_ hK_=> ?_) AllReadyH.nil))
  focus
   refine Yq ?_
   (refine BM 8 (AM _ _) ?_;intro zb wb _ _ _)
   refine Yn hK_ ?_;clear hK_ K_;refine wpAnyH_ready (rs:=[6,15]) (by kernel_rfl) (by simp) (AllReadyH.cons rfl (fun K_ hK_=> ?_) (AllReadyH.cons rfl (fun K_ hK_=> ?_) AllReadyH.nil))
   focus
    go_simp;refine(Ci (z:=zb) (vs:=[t.size]) rfl rfl (show 9*1≤1000000000 by decide)).mono ?_;rintro e w6 ⟨f6,caps6,T6,rfl,_,hL6,hT6⟩;have hzb:w.heap.size≤zb:=(Aj.monoS (w0:=w) (Aj.of_born (z:=zb) 0)).out ⟨zb,0,none⟩ rfl;refine Yz hK_ ?_;clear hK_ K_;refine wpAnyH_ready (rs:=[9,15]) (by kernel_rfl) (by simp) (AllReadyH.cons rfl (fun K_ hK_=> ?_) (AllReadyH.cons rfl (fun K_ hK_=> ?_) AllReadyH.nil))
    focus
     go_simp;refine(BV t.sum _).mono ?_;rintro e w7 ⟨f7,caps7,T7,rfl,_,hL7,hT7⟩;refine Yz hK_ ?_;clear hK_ K_;refine wpAnyH_ready (rs:=[12,15]) (by kernel_rfl) (by simp) (AllReadyH.cons rfl (fun K_ hK_=> ?_) (AllReadyH.cons rfl (fun K_ hK_=> ?_) AllReadyH.nil))
     focus
      go_simp;refine(AD (Al t.hw) t.hw rfl _).mono ?_;rintro e w8 ⟨f8,caps8,T8,rfl,_,hL8,hT8⟩;refine Yz hK_ ?_;clear hK_ K_;refine Yh 15 fun K_ hK_=> ?_
      (refine BM 18 (AM _ _) ?_;intro zd wb _ _ _)
      refine Yn hK_ ?_;clear hK_ K_;refine Yg 16 fun K_ hK_=> ?_
      go_simp;refine(Ci (z:=zd) (vs:=[t.ctr]) rfl rfl (show 9*1≤1000000000 by decide)).mono ?_;rintro e w9 ⟨f9,caps9,T9,rfl,_,hL9,hT9⟩;have hzd:w.heap.size≤zd:=(Aj.monoS (w0:=w) (Aj.of_born (z:=zd) 0)).out ⟨zd,0,none⟩ rfl;refine Yz hK_ ?_;clear hK_ K_;refine Yg 19 fun K_ hK_=> ?_
      go_simp;refine(AD (Al t.ecu) t.ecu rfl _).mono ?_;rintro e w10 ⟨f10,caps10,T10,rfl,_,hL10,hT10⟩;refine Yz hK_ ?_;clear hK_ K_;refine Yh 20 fun K_ hK_=> ?_
      (refine BM 23 (Ee _ _ _ _ _ _ _ _ _ _ _ _ _) ?_;intro zc wb _ _ _)
      refine Yn hK_ ?_;clear hK_ K_;refine Yg 21 fun K_ hK_=> ?_
      go_simp;refine(ET (z:=zc) (hL5.later (Aa (w0:=w5)).chg (fun _ _ h=>h)) (hL6.later (Aa (w0:=w6)).chg (fun _ _ h=>h)) (hL7.later (Aa (w0:=w7)).chg (fun _ _ h=>h)) (hL8.later (Aa (w0:=w8)).chg (fun _ _ h=>h)) (hL9.later (Aa (w0:=w9)).chg (fun _ _ h=>h)) (hL10.later (Aa (w0:=w10)).chg (fun _ _ h=>h))).mono ?_;rintro e w11 ⟨f11,caps11,T11,rfl,_,hL11,hT11⟩;have hzc:w.heap.size≤zc:=(Aj.monoS (w0:=w) (Aj.of_born (z:=zc) 0)).out ⟨zc,0,none⟩ rfl;refine Yz hK_ ?_;clear hK_ K_;refine YS 22 ?_;refine Yd ?_
     rotate_left 1
     focus
      refine Yq ?_
      (refine BM 18 (AM _ _) ?_;intro zd wb _ _ _)
      refine Yn hK_ ?_;clear hK_ K_;refine Yg 12 fun K_ hK_=> ?_
      go_simp;refine(AD (Al t.hw) t.hw rfl _).mono ?_;rintro e w8 ⟨f8,caps8,T8,rfl,_,hL8,hT8⟩;refine Yz hK_ ?_;clear hK_ K_;refine Yg 16 fun K_ hK_=> ?_
      go_simp;refine(Ci (z:=zd) (vs:=[t.ctr]) rfl rfl (show 9*1≤1000000000 by decide)).mono ?_;rintro e w9 ⟨f9,caps9,T9,rfl,_,hL9,hT9⟩;have hzd:w.heap.size≤zd:=(Aj.monoS (w0:=w) (Aj.of_born (z:=zd) 0)).out ⟨zd,0,none⟩ rfl;refine Yz hK_ ?_;clear hK_ K_;refine Yg 19 fun K_ hK_=> ?_
      go_simp;refine(AD (Al t.ecu) t.ecu rfl _).mono ?_;rintro e w10 ⟨f10,caps10,T10,rfl,_,hL10,hT10⟩;refine Yz hK_ ?_;clear hK_ K_;refine Yh 20 fun K_ hK_=> ?_
      (refine BM 23 (Ee _ _ _ _ _ _ _ _ _ _ _ _ _) ?_;intro zc wb _ _ _)
      refine Yn hK_ ?_;clear hK_ K_;refine Yg 21 fun K_ hK_=> ?_
      go_simp;refine(ET (z:=zc) (hL5.later (Aa (w0:=w5)).chg (fun _ _ h=>h)) (hL6.later (Aa (w0:=w6)).chg (fun _ _ h=>h)) (hL7.later (Aa (w0:=w7)).chg (fun _ _ h=>h)) (hL8.later (Aa (w0:=w8)).chg (fun _ _ h=>h)) (hL9.later (Aa (w0:=w9)).chg (fun _ _ h=>h)) (hL10.later (Aa (w0:=w10)).chg (fun _ _ h=>h))).mono ?_;rintro e w11 ⟨f11,caps11,T11,rfl,_,hL11,hT11⟩;have hzc:w.heap.size≤zc:=(Aj.monoS (w0:=w) (Aj.of_born (z:=zc) 0)).out ⟨zc,0,none⟩ rfl;refine Yz hK_ ?_;clear hK_ K_;refine YS 22 ?_;refine Yd ?_
     rotate_left 1
    rotate_left 2
    focus
     refine Yq ?_
     (refine BM 18 (AM _ _) ?_;intro zd wb _ _ _)
     refine Yn hK_ ?_;clear hK_ K_;refine Yg 9 fun K_ hK_=> ?_
     go_simp;refine(BV t.sum _).mono ?_;rintro e w7 ⟨f7,caps7,T7,rfl,_,hL7,hT7⟩;refine Yz hK_ ?_;clear hK_ K_;refine Yg 12 fun K_ hK_=> ?_
     go_simp;refine(AD (Al t.hw) t.hw rfl _).mono ?_;rintro e w8 ⟨f8,caps8,T8,rfl,_,hL8,hT8⟩;refine Yz hK_ ?_;clear hK_ K_;refine Yg 16 fun K_ hK_=> ?_
     go_simp;refine(Ci (z:=zd) (vs:=[t.ctr]) rfl rfl (show 9*1≤1000000000 by decide)).mono ?_;rintro e w9 ⟨f9,caps9,T9,rfl,_,hL9,hT9⟩;have hzd:w.heap.size≤zd:=(Aj.monoS (w0:=w) (Aj.of_born (z:=zd) 0)).out ⟨zd,0,none⟩ rfl;refine Yz hK_ ?_;clear hK_ K_;refine Yg 19 fun K_ hK_=> ?_
     go_simp;refine(AD (Al t.ecu) t.ecu rfl _).mono ?_;rintro e w10 ⟨f10,caps10,T10,rfl,_,hL10,hT10⟩;refine Yz hK_ ?_;clear hK_ K_;refine Yh 20 fun K_ hK_=> ?_
     (refine BM 23 (Ee _ _ _ _ _ _ _ _ _ _ _ _ _) ?_;intro zc wb _ _ _)
     refine Yn hK_ ?_;clear hK_ K_;refine Yg 21 fun K_ hK_=> ?_
     go_simp;refine(ET (z:=zc) (hL5.later (Aa (w0:=w5)).chg (fun _ _ h=>h)) (hL6.later (Aa (w0:=w6)).chg (fun _ _ h=>h)) (hL7.later (Aa (w0:=w7)).chg (fun _ _ h=>h)) (hL8.later (Aa (w0:=w8)).chg (fun _ _ h=>h)) (hL9.later (Aa (w0:=w9)).chg (fun _ _ h=>h)) (hL10.later (Aa (w0:=w10)).chg (fun _ _ h=>h))).mono ?_;rintro e w11 ⟨f11,caps11,T11,rfl,_,hL11,hT11⟩;have hzc:w.heap.size≤zc:=(Aj.monoS (w0:=w) (Aj.of_born (z:=zc) 0)).out ⟨zc,0,none⟩ rfl;refine Yz hK_ ?_;clear hK_ K_;refine YS 22 ?_;refine Yd ?_
    rotate_left 1
   rotate_left 3
   focus
    refine Yq ?_
    (refine BM 18 (AM _ _) ?_;intro zd wb _ _ _)
    refine Yn hK_ ?_;clear hK_ K_;refine Yg 6 fun K_ hK_=> ?_
    go_simp;refine(Ci (z:=zb) (vs:=[t.size]) rfl rfl (show 9*1≤1000000000 by decide)).mono ?_;rintro e w6 ⟨f6,caps6,T6,rfl,_,hL6,hT6⟩;have hzb:w.heap.size≤zb:=(Aj.monoS (w0:=w) (Aj.of_born (z:=zb) 0)).out ⟨zb,0,none⟩ rfl;refine Yz hK_ ?_;clear hK_ K_;refine Yg 9 fun K_ hK_=> ?_
    go_simp;refine(BV t.sum _).mono ?_;rintro e w7 ⟨f7,caps7,T7,rfl,_,hL7,hT7⟩;refine Yz hK_ ?_;clear hK_ K_;refine Yg 12 fun K_ hK_=> ?_
    go_simp;refine(AD (Al t.hw) t.hw rfl _).mono ?_;rintro e w8 ⟨f8,caps8,T8,rfl,_,hL8,hT8⟩;refine Yz hK_ ?_;clear hK_ K_;refine Yg 16 fun K_ hK_=> ?_
    go_simp;refine(Ci (z:=zd) (vs:=[t.ctr]) rfl rfl (show 9*1≤1000000000 by decide)).mono ?_;rintro e w9 ⟨f9,caps9,T9,rfl,_,hL9,hT9⟩;have hzd:w.heap.size≤zd:=(Aj.monoS (w0:=w) (Aj.of_born (z:=zd) 0)).out ⟨zd,0,none⟩ rfl;refine Yz hK_ ?_;clear hK_ K_;refine Yg 19 fun K_ hK_=> ?_
    go_simp;refine(AD (Al t.ecu) t.ecu rfl _).mono ?_;rintro e w10 ⟨f10,caps10,T10,rfl,_,hL10,hT10⟩;refine Yz hK_ ?_;clear hK_ K_;refine Yh 20 fun K_ hK_=> ?_
    (refine BM 23 (Ee _ _ _ _ _ _ _ _ _ _ _ _ _) ?_;intro zc wb _ _ _)
    refine Yn hK_ ?_;clear hK_ K_;refine Yg 21 fun K_ hK_=> ?_
    go_simp;refine(ET (z:=zc) (hL5.later (Aa (w0:=w5)).chg (fun _ _ h=>h)) (hL6.later (Aa (w0:=w6)).chg (fun _ _ h=>h)) (hL7.later (Aa (w0:=w7)).chg (fun _ _ h=>h)) (hL8.later (Aa (w0:=w8)).chg (fun _ _ h=>h)) (hL9.later (Aa (w0:=w9)).chg (fun _ _ h=>h)) (hL10.later (Aa (w0:=w10)).chg (fun _ _ h=>h))).mono ?_;rintro e w11 ⟨f11,caps11,T11,rfl,_,hL11,hT11⟩;have hzc:w.heap.size≤zc:=(Aj.monoS (w0:=w) (Aj.of_born (z:=zc) 0)).out ⟨zc,0,none⟩ rfl;refine Yz hK_ ?_;clear hK_ K_;refine YS 22 ?_;refine Yd ?_
   rotate_left 1
  rotate_left 4
  focus
   refine Yq ?_
   (refine BM 18 (AM _ _) ?_;intro zd wb _ _ _)
   refine Yn hK_ ?_;clear hK_ K_;refine Yh 5 fun K_ hK_=> ?_
   (refine BM 8 (AM _ _) ?_;intro zb wb _ _ _)
   refine Yn hK_ ?_;clear hK_ K_;refine Yg 6 fun K_ hK_=> ?_
   go_simp;refine(Ci (z:=zb) (vs:=[t.size]) rfl rfl (show 9*1≤1000000000 by decide)).mono ?_;rintro e w6 ⟨f6,caps6,T6,rfl,_,hL6,hT6⟩;have hzb:w.heap.size≤zb:=(Aj.monoS (w0:=w) (Aj.of_born (z:=zb) 0)).out ⟨zb,0,none⟩ rfl;refine Yz hK_ ?_;clear hK_ K_;refine Yg 9 fun K_ hK_=> ?_
   go_simp;refine(BV t.sum _).mono ?_;rintro e w7 ⟨f7,caps7,T7,rfl,_,hL7,hT7⟩;refine Yz hK_ ?_;clear hK_ K_;refine Yg 12 fun K_ hK_=> ?_
   go_simp;refine(AD (Al t.hw) t.hw rfl _).mono ?_;rintro e w8 ⟨f8,caps8,T8,rfl,_,hL8,hT8⟩;refine Yz hK_ ?_;clear hK_ K_;refine Yg 16 fun K_ hK_=> ?_
   go_simp;refine(Ci (z:=zd) (vs:=[t.ctr]) rfl rfl (show 9*1≤1000000000 by decide)).mono ?_;rintro e w9 ⟨f9,caps9,T9,rfl,_,hL9,hT9⟩;have hzd:w.heap.size≤zd:=(Aj.monoS (w0:=w) (Aj.of_born (z:=zd) 0)).out ⟨zd,0,none⟩ rfl;refine Yz hK_ ?_;clear hK_ K_;refine Yg 19 fun K_ hK_=> ?_
   go_simp;refine(AD (Al t.ecu) t.ecu rfl _).mono ?_;rintro e w10 ⟨f10,caps10,T10,rfl,_,hL10,hT10⟩;refine Yz hK_ ?_;clear hK_ K_;refine Yh 20 fun K_ hK_=> ?_
   (refine BM 23 (Ee _ _ _ _ _ _ _ _ _ _ _ _ _) ?_;intro zc wb _ _ _)
   refine Yn hK_ ?_;clear hK_ K_;refine Yg 21 fun K_ hK_=> ?_
   go_simp;refine(ET (z:=zc) (hL5.later (Aa (w0:=w5)).chg (fun _ _ h=>h)) (hL6.later (Aa (w0:=w6)).chg (fun _ _ h=>h)) (hL7.later (Aa (w0:=w7)).chg (fun _ _ h=>h)) (hL8.later (Aa (w0:=w8)).chg (fun _ _ h=>h)) (hL9.later (Aa (w0:=w9)).chg (fun _ _ h=>h)) (hL10.later (Aa (w0:=w10)).chg (fun _ _ h=>h))).mono ?_;rintro e w11 ⟨f11,caps11,T11,rfl,_,hL11,hT11⟩;have hzc:w.heap.size≤zc:=(Aj.monoS (w0:=w) (Aj.of_born (z:=zc) 0)).out ⟨zc,0,none⟩ rfl;refine Yz hK_ ?_;clear hK_ K_;refine YS 22 ?_;refine Yd ?_
  rotate_left 1
 rotate_left 5
 focus
  refine Yq ?_
  (refine BM 8 (AM _ _) ?_;intro zb wb _ _ _)
  refine Yn hK_ ?_;clear hK_ K_;refine wpAnyH_ready (rs:=[2,15]) (by kernel_rfl) (by simp) (AllReadyH.cons rfl (fun K_ hK_=> ?_) (AllReadyH.cons rfl (fun K_ hK_=> ?_) AllReadyH.nil))
  focus
   go_simp;refine(AD (Al t.l) t.l rfl _).mono ?_;rintro e w5 ⟨f5,caps5,T5,rfl,_,hL5,hT5⟩;refine Yz hK_ ?_;clear hK_ K_;refine wpAnyH_ready (rs:=[6,15]) (by kernel_rfl) (by simp) (AllReadyH.cons rfl (fun K_ hK_=> ?_) (AllReadyH.cons rfl (fun K_ hK_=> ?_) AllReadyH.nil))
   focus
    go_simp;refine(Ci (z:=zb) (vs:=[t.size]) rfl rfl (show 9*1≤1000000000 by decide)).mono ?_;rintro e w6 ⟨f6,caps6,T6,rfl,_,hL6,hT6⟩;have hzb:w.heap.size≤zb:=(Aj.monoS (w0:=w) (Aj.of_born (z:=zb) 0)).out ⟨zb,0,none⟩ rfl;refine Yz hK_ ?_;clear hK_ K_;refine wpAnyH_ready (rs:=[9,15]) (by kernel_rfl) (by simp) (AllReadyH.cons rfl (fun K_ hK_=> ?_) (AllReadyH.cons rfl (fun K_ hK_=> ?_) AllReadyH.nil))
    focus
     go_simp;refine(BV t.sum _).mono ?_;rintro e w7 ⟨f7,caps7,T7,rfl,_,hL7,hT7⟩;refine Yz hK_ ?_;clear hK_ K_;refine wpAnyH_ready (rs:=[12,15]) (by kernel_rfl) (by simp) (AllReadyH.cons rfl (fun K_ hK_=> ?_) (AllReadyH.cons rfl (fun K_ hK_=> ?_) AllReadyH.nil))
     focus
      go_simp;refine(AD (Al t.hw) t.hw rfl _).mono ?_;rintro e w8 ⟨f8,caps8,T8,rfl,_,hL8,hT8⟩;refine Yz hK_ ?_;clear hK_ K_;refine Yh 15 fun K_ hK_=> ?_
      (refine BM 18 (AM _ _) ?_;intro zd wb _ _ _)
      refine Yn hK_ ?_;clear hK_ K_;refine Yg 16 fun K_ hK_=> ?_
      go_simp;refine(Ci (z:=zd) (vs:=[t.ctr]) rfl rfl (show 9*1≤1000000000 by decide)).mono ?_;rintro e w9 ⟨f9,caps9,T9,rfl,_,hL9,hT9⟩;have hzd:w.heap.size≤zd:=(Aj.monoS (w0:=w) (Aj.of_born (z:=zd) 0)).out ⟨zd,0,none⟩ rfl;refine Yz hK_ ?_;clear hK_ K_;refine Yg 19 fun K_ hK_=> ?_
      go_simp;refine(AD (Al t.ecu) t.ecu rfl _).mono ?_;rintro e w10 ⟨f10,caps10,T10,rfl,_,hL10,hT10⟩;refine Yz hK_ ?_;clear hK_ K_;refine Yh 20 fun K_ hK_=> ?_
      (refine BM 23 (Ee _ _ _ _ _ _ _ _ _ _ _ _ _) ?_;intro zc wb _ _ _)
      refine Yn hK_ ?_;clear hK_ K_;refine Yg 21 fun K_ hK_=> ?_
      go_simp;refine(ET (z:=zc) (hL5.later (Aa (w0:=w5)).chg (fun _ _ h=>h)) (hL6.later (Aa (w0:=w6)).chg (fun _ _ h=>h)) (hL7.later (Aa (w0:=w7)).chg (fun _ _ h=>h)) (hL8.later (Aa (w0:=w8)).chg (fun _ _ h=>h)) (hL9.later (Aa (w0:=w9)).chg (fun _ _ h=>h)) (hL10.later (Aa (w0:=w10)).chg (fun _ _ h=>h))).mono ?_;rintro e w11 ⟨f11,caps11,T11,rfl,_,hL11,hT11⟩;have hzc:w.heap.size≤zc:=(Aj.monoS (w0:=w) (Aj.of_born (z:=zc) 0)).out ⟨zc,0,none⟩ rfl;refine Yz hK_ ?_;clear hK_ K_;refine YS 22 ?_;refine Yd ?_
     rotate_left 1
     focus
      refine Yq ?_
      (refine BM 18 (AM _ _) ?_;intro zd wb _ _ _)
      refine Yn hK_ ?_;clear hK_ K_;refine Yg 12 fun K_ hK_=> ?_
      go_simp;refine(AD (Al t.hw) t.hw rfl _).mono ?_;rintro e w8 ⟨f8,caps8,T8,rfl,_,hL8,hT8⟩;refine Yz hK_ ?_;clear hK_ K_;refine Yg 16 fun K_ hK_=> ?_
      go_simp;refine(Ci (z:=zd) (vs:=[t.ctr]) rfl rfl (show 9*1≤1000000000 by decide)).mono ?_;rintro e w9 ⟨f9,caps9,T9,rfl,_,hL9,hT9⟩;have hzd:w.heap.size≤zd:=(Aj.monoS (w0:=w) (Aj.of_born (z:=zd) 0)).out ⟨zd,0,none⟩ rfl;refine Yz hK_ ?_;clear hK_ K_;refine Yg 19 fun K_ hK_=> ?_
      go_simp;refine(AD (Al t.ecu) t.ecu rfl _).mono ?_;rintro e w10 ⟨f10,caps10,T10,rfl,_,hL10,hT10⟩;refine Yz hK_ ?_;clear hK_ K_;refine Yh 20 fun K_ hK_=> ?_
      (refine BM 23 (Ee _ _ _ _ _ _ _ _ _ _ _ _ _) ?_;intro zc wb _ _ _)
      refine Yn hK_ ?_;clear hK_ K_;refine Yg 21 fun K_ hK_=> ?_
      go_simp;refine(ET (z:=zc) (hL5.later (Aa (w0:=w5)).chg (fun _ _ h=>h)) (hL6.later (Aa (w0:=w6)).chg (fun _ _ h=>h)) (hL7.later (Aa (w0:=w7)).chg (fun _ _ h=>h)) (hL8.later (Aa (w0:=w8)).chg (fun _ _ h=>h)) (hL9.later (Aa (w0:=w9)).chg (fun _ _ h=>h)) (hL10.later (Aa (w0:=w10)).chg (fun _ _ h=>h))).mono ?_;rintro e w11 ⟨f11,caps11,T11,rfl,_,hL11,hT11⟩;have hzc:w.heap.size≤zc:=(Aj.monoS (w0:=w) (Aj.of_born (z:=zc) 0)).out ⟨zc,0,none⟩ rfl;refine Yz hK_ ?_;clear hK_ K_;refine YS 22 ?_;refine Yd ?_
     rotate_left 1
    rotate_left 2
    focus
     refine Yq ?_
     (refine BM 18 (AM _ _) ?_;intro zd wb _ _ _)
     refine Yn hK_ ?_;clear hK_ K_;refine Yg 9 fun K_ hK_=> ?_
     go_simp;refine(BV t.sum _).mono ?_;rintro e w7 ⟨f7,caps7,T7,rfl,_,hL7,hT7⟩;refine Yz hK_ ?_;clear hK_ K_;refine Yg 12 fun K_ hK_=> ?_
     go_simp;refine(AD (Al t.hw) t.hw rfl _).mono ?_;rintro e w8 ⟨f8,caps8,T8,rfl,_,hL8,hT8⟩;refine Yz hK_ ?_;clear hK_ K_;refine Yg 16 fun K_ hK_=> ?_
     go_simp;refine(Ci (z:=zd) (vs:=[t.ctr]) rfl rfl (show 9*1≤1000000000 by decide)).mono ?_;rintro e w9 ⟨f9,caps9,T9,rfl,_,hL9,hT9⟩;have hzd:w.heap.size≤zd:=(Aj.monoS (w0:=w) (Aj.of_born (z:=zd) 0)).out ⟨zd,0,none⟩ rfl;refine Yz hK_ ?_;clear hK_ K_;refine Yg 19 fun K_ hK_=> ?_
     go_simp;refine(AD (Al t.ecu) t.ecu rfl _).mono ?_;rintro e w10 ⟨f10,caps10,T10,rfl,_,hL10,hT10⟩;refine Yz hK_ ?_;clear hK_ K_;refine Yh 20 fun K_ hK_=> ?_
     (refine BM 23 (Ee _ _ _ _ _ _ _ _ _ _ _ _ _) ?_;intro zc wb _ _ _)
     refine Yn hK_ ?_;clear hK_ K_;refine Yg 21 fun K_ hK_=> ?_
     go_simp;refine(ET (z:=zc) (hL5.later (Aa (w0:=w5)).chg (fun _ _ h=>h)) (hL6.later (Aa (w0:=w6)).chg (fun _ _ h=>h)) (hL7.later (Aa (w0:=w7)).chg (fun _ _ h=>h)) (hL8.later (Aa (w0:=w8)).chg (fun _ _ h=>h)) (hL9.later (Aa (w0:=w9)).chg (fun _ _ h=>h)) (hL10.later (Aa (w0:=w10)).chg (fun _ _ h=>h))).mono ?_;rintro e w11 ⟨f11,caps11,T11,rfl,_,hL11,hT11⟩;have hzc:w.heap.size≤zc:=(Aj.monoS (w0:=w) (Aj.of_born (z:=zc) 0)).out ⟨zc,0,none⟩ rfl;refine Yz hK_ ?_;clear hK_ K_;refine YS 22 ?_;refine Yd ?_
    rotate_left 1
   rotate_left 3
   focus
    refine Yq ?_
    (refine BM 18 (AM _ _) ?_;intro zd wb _ _ _)
    refine Yn hK_ ?_;clear hK_ K_;refine Yg 6 fun K_ hK_=> ?_
    go_simp;refine(Ci (z:=zb) (vs:=[t.size]) rfl rfl (show 9*1≤1000000000 by decide)).mono ?_;rintro e w6 ⟨f6,caps6,T6,rfl,_,hL6,hT6⟩;have hzb:w.heap.size≤zb:=(Aj.monoS (w0:=w) (Aj.of_born (z:=zb) 0)).out ⟨zb,0,none⟩ rfl;refine Yz hK_ ?_;clear hK_ K_;refine Yg 9 fun K_ hK_=> ?_
    go_simp;refine(BV t.sum _).mono ?_;rintro e w7 ⟨f7,caps7,T7,rfl,_,hL7,hT7⟩;refine Yz hK_ ?_;clear hK_ K_;refine Yg 12 fun K_ hK_=> ?_
    go_simp;refine(AD (Al t.hw) t.hw rfl _).mono ?_;rintro e w8 ⟨f8,caps8,T8,rfl,_,hL8,hT8⟩;refine Yz hK_ ?_;clear hK_ K_;refine Yg 16 fun K_ hK_=> ?_
    go_simp;refine(Ci (z:=zd) (vs:=[t.ctr]) rfl rfl (show 9*1≤1000000000 by decide)).mono ?_;rintro e w9 ⟨f9,caps9,T9,rfl,_,hL9,hT9⟩;have hzd:w.heap.size≤zd:=(Aj.monoS (w0:=w) (Aj.of_born (z:=zd) 0)).out ⟨zd,0,none⟩ rfl;refine Yz hK_ ?_;clear hK_ K_;refine Yg 19 fun K_ hK_=> ?_
    go_simp;refine(AD (Al t.ecu) t.ecu rfl _).mono ?_;rintro e w10 ⟨f10,caps10,T10,rfl,_,hL10,hT10⟩;refine Yz hK_ ?_;clear hK_ K_;refine Yh 20 fun K_ hK_=> ?_
    (refine BM 23 (Ee _ _ _ _ _ _ _ _ _ _ _ _ _) ?_;intro zc wb _ _ _)
    refine Yn hK_ ?_;clear hK_ K_;refine Yg 21 fun K_ hK_=> ?_
    go_simp;refine(ET (z:=zc) (hL5.later (Aa (w0:=w5)).chg (fun _ _ h=>h)) (hL6.later (Aa (w0:=w6)).chg (fun _ _ h=>h)) (hL7.later (Aa (w0:=w7)).chg (fun _ _ h=>h)) (hL8.later (Aa (w0:=w8)).chg (fun _ _ h=>h)) (hL9.later (Aa (w0:=w9)).chg (fun _ _ h=>h)) (hL10.later (Aa (w0:=w10)).chg (fun _ _ h=>h))).mono ?_;rintro e w11 ⟨f11,caps11,T11,rfl,_,hL11,hT11⟩;have hzc:w.heap.size≤zc:=(Aj.monoS (w0:=w) (Aj.of_born (z:=zc) 0)).out ⟨zc,0,none⟩ rfl;refine Yz hK_ ?_;clear hK_ K_;refine YS 22 ?_;refine Yd ?_
   rotate_left 1
  rotate_left 4
  focus
   refine Yq ?_
   (refine BM 18 (AM _ _) ?_;intro zd wb _ _ _)
   refine Yn hK_ ?_;clear hK_ K_;refine Yg 2 fun K_ hK_=> ?_
   go_simp;refine(AD (Al t.l) t.l rfl _).mono ?_;rintro e w5 ⟨f5,caps5,T5,rfl,_,hL5,hT5⟩;refine Yz hK_ ?_;clear hK_ K_;refine Yg 6 fun K_ hK_=> ?_
   go_simp;refine(Ci (z:=zb) (vs:=[t.size]) rfl rfl (show 9*1≤1000000000 by decide)).mono ?_;rintro e w6 ⟨f6,caps6,T6,rfl,_,hL6,hT6⟩;have hzb:w.heap.size≤zb:=(Aj.monoS (w0:=w) (Aj.of_born (z:=zb) 0)).out ⟨zb,0,none⟩ rfl;refine Yz hK_ ?_;clear hK_ K_;refine Yg 9 fun K_ hK_=> ?_
   go_simp;refine(BV t.sum _).mono ?_;rintro e w7 ⟨f7,caps7,T7,rfl,_,hL7,hT7⟩;refine Yz hK_ ?_;clear hK_ K_;refine Yg 12 fun K_ hK_=> ?_
   go_simp;refine(AD (Al t.hw) t.hw rfl _).mono ?_;rintro e w8 ⟨f8,caps8,T8,rfl,_,hL8,hT8⟩;refine Yz hK_ ?_;clear hK_ K_;refine Yg 16 fun K_ hK_=> ?_
   go_simp;refine(Ci (z:=zd) (vs:=[t.ctr]) rfl rfl (show 9*1≤1000000000 by decide)).mono ?_;rintro e w9 ⟨f9,caps9,T9,rfl,_,hL9,hT9⟩;have hzd:w.heap.size≤zd:=(Aj.monoS (w0:=w) (Aj.of_born (z:=zd) 0)).out ⟨zd,0,none⟩ rfl;refine Yz hK_ ?_;clear hK_ K_;refine Yg 19 fun K_ hK_=> ?_
   go_simp;refine(AD (Al t.ecu) t.ecu rfl _).mono ?_;rintro e w10 ⟨f10,caps10,T10,rfl,_,hL10,hT10⟩;refine Yz hK_ ?_;clear hK_ K_;refine Yh 20 fun K_ hK_=> ?_
   (refine BM 23 (Ee _ _ _ _ _ _ _ _ _ _ _ _ _) ?_;intro zc wb _ _ _)
   refine Yn hK_ ?_;clear hK_ K_;refine Yg 21 fun K_ hK_=> ?_
   go_simp;refine(ET (z:=zc) (hL5.later (Aa (w0:=w5)).chg (fun _ _ h=>h)) (hL6.later (Aa (w0:=w6)).chg (fun _ _ h=>h)) (hL7.later (Aa (w0:=w7)).chg (fun _ _ h=>h)) (hL8.later (Aa (w0:=w8)).chg (fun _ _ h=>h)) (hL9.later (Aa (w0:=w9)).chg (fun _ _ h=>h)) (hL10.later (Aa (w0:=w10)).chg (fun _ _ h=>h))).mono ?_;rintro e w11 ⟨f11,caps11,T11,rfl,_,hL11,hT11⟩;have hzc:w.heap.size≤zc:=(Aj.monoS (w0:=w) (Aj.of_born (z:=zc) 0)).out ⟨zc,0,none⟩ rfl;refine Yz hK_ ?_;clear hK_ K_;refine YS 22 ?_;refine Yd ?_
  rotate_left 1
 rotate_left 5
 focus
  refine Yq ?_
  (refine BM 18 (AM _ _) ?_;intro zd wb _ _ _)
  refine Yn hK_ ?_;clear hK_ K_;refine wpAnyH_ready (rs:=[2,5]) (by kernel_rfl) (by simp) (AllReadyH.cons rfl (fun K_ hK_=> ?_) (AllReadyH.cons rfl (fun K_ hK_=> ?_) AllReadyH.nil))
  focus
   go_simp;refine(AD (Al t.l) t.l rfl _).mono ?_;rintro e w5 ⟨f5,caps5,T5,rfl,_,hL5,hT5⟩;refine Yz hK_ ?_;clear hK_ K_;refine Yh 5 fun K_ hK_=> ?_
   (refine BM 8 (AM _ _) ?_;intro zb wb _ _ _)
   refine Yn hK_ ?_;clear hK_ K_;refine Yg 6 fun K_ hK_=> ?_
   go_simp;refine(Ci (z:=zb) (vs:=[t.size]) rfl rfl (show 9*1≤1000000000 by decide)).mono ?_;rintro e w6 ⟨f6,caps6,T6,rfl,_,hL6,hT6⟩;have hzb:w.heap.size≤zb:=(Aj.monoS (w0:=w) (Aj.of_born (z:=zb) 0)).out ⟨zb,0,none⟩ rfl;refine Yz hK_ ?_;clear hK_ K_;refine Yg 9 fun K_ hK_=> ?_
   go_simp;refine(BV t.sum _).mono ?_;rintro e w7 ⟨f7,caps7,T7,rfl,_,hL7,hT7⟩;refine Yz hK_ ?_;clear hK_ K_;refine Yg 12 fun K_ hK_=> ?_
   go_simp;refine(AD (Al t.hw) t.hw rfl _).mono ?_;rintro e w8 ⟨f8,caps8,T8,rfl,_,hL8,hT8⟩;refine Yz hK_ ?_;clear hK_ K_;refine Yg 16 fun K_ hK_=> ?_
   go_simp;refine(Ci (z:=zd) (vs:=[t.ctr]) rfl rfl (show 9*1≤1000000000 by decide)).mono ?_;rintro e w9 ⟨f9,caps9,T9,rfl,_,hL9,hT9⟩;have hzd:w.heap.size≤zd:=(Aj.monoS (w0:=w) (Aj.of_born (z:=zd) 0)).out ⟨zd,0,none⟩ rfl;refine Yz hK_ ?_;clear hK_ K_;refine Yg 19 fun K_ hK_=> ?_
   go_simp;refine(AD (Al t.ecu) t.ecu rfl _).mono ?_;rintro e w10 ⟨f10,caps10,T10,rfl,_,hL10,hT10⟩;refine Yz hK_ ?_;clear hK_ K_;refine Yh 20 fun K_ hK_=> ?_
   (refine BM 23 (Ee _ _ _ _ _ _ _ _ _ _ _ _ _) ?_;intro zc wb _ _ _)
   refine Yn hK_ ?_;clear hK_ K_;refine Yg 21 fun K_ hK_=> ?_
   go_simp;refine(ET (z:=zc) (hL5.later (Aa (w0:=w5)).chg (fun _ _ h=>h)) (hL6.later (Aa (w0:=w6)).chg (fun _ _ h=>h)) (hL7.later (Aa (w0:=w7)).chg (fun _ _ h=>h)) (hL8.later (Aa (w0:=w8)).chg (fun _ _ h=>h)) (hL9.later (Aa (w0:=w9)).chg (fun _ _ h=>h)) (hL10.later (Aa (w0:=w10)).chg (fun _ _ h=>h))).mono ?_;rintro e w11 ⟨f11,caps11,T11,rfl,_,hL11,hT11⟩;have hzc:w.heap.size≤zc:=(Aj.monoS (w0:=w) (Aj.of_born (z:=zc) 0)).out ⟨zc,0,none⟩ rfl;refine Yz hK_ ?_;clear hK_ K_;refine YS 22 ?_;refine Yd ?_
  rotate_left 1
  focus
   refine Yq ?_
   (refine BM 8 (AM _ _) ?_;intro zb wb _ _ _)
   refine Yn hK_ ?_;clear hK_ K_;refine Yg 2 fun K_ hK_=> ?_
   go_simp;refine(AD (Al t.l) t.l rfl _).mono ?_;rintro e w5 ⟨f5,caps5,T5,rfl,_,hL5,hT5⟩;refine Yz hK_ ?_;clear hK_ K_;refine Yg 6 fun K_ hK_=> ?_
   go_simp;refine(Ci (z:=zb) (vs:=[t.size]) rfl rfl (show 9*1≤1000000000 by decide)).mono ?_;rintro e w6 ⟨f6,caps6,T6,rfl,_,hL6,hT6⟩;have hzb:w.heap.size≤zb:=(Aj.monoS (w0:=w) (Aj.of_born (z:=zb) 0)).out ⟨zb,0,none⟩ rfl;refine Yz hK_ ?_;clear hK_ K_;refine Yg 9 fun K_ hK_=> ?_
   go_simp;refine(BV t.sum _).mono ?_;rintro e w7 ⟨f7,caps7,T7,rfl,_,hL7,hT7⟩;refine Yz hK_ ?_;clear hK_ K_;refine Yg 12 fun K_ hK_=> ?_
   go_simp;refine(AD (Al t.hw) t.hw rfl _).mono ?_;rintro e w8 ⟨f8,caps8,T8,rfl,_,hL8,hT8⟩;refine Yz hK_ ?_;clear hK_ K_;refine Yg 16 fun K_ hK_=> ?_
   go_simp;refine(Ci (z:=zd) (vs:=[t.ctr]) rfl rfl (show 9*1≤1000000000 by decide)).mono ?_;rintro e w9 ⟨f9,caps9,T9,rfl,_,hL9,hT9⟩;have hzd:w.heap.size≤zd:=(Aj.monoS (w0:=w) (Aj.of_born (z:=zd) 0)).out ⟨zd,0,none⟩ rfl;refine Yz hK_ ?_;clear hK_ K_;refine Yg 19 fun K_ hK_=> ?_
   go_simp;refine(AD (Al t.ecu) t.ecu rfl _).mono ?_;rintro e w10 ⟨f10,caps10,T10,rfl,_,hL10,hT10⟩;refine Yz hK_ ?_;clear hK_ K_;refine Yh 20 fun K_ hK_=> ?_
   (refine BM 23 (Ee _ _ _ _ _ _ _ _ _ _ _ _ _) ?_;intro zc wb _ _ _)
   refine Yn hK_ ?_;clear hK_ K_;refine Yg 21 fun K_ hK_=> ?_
   go_simp;refine(ET (z:=zc) (hL5.later (Aa (w0:=w5)).chg (fun _ _ h=>h)) (hL6.later (Aa (w0:=w6)).chg (fun _ _ h=>h)) (hL7.later (Aa (w0:=w7)).chg (fun _ _ h=>h)) (hL8.later (Aa (w0:=w8)).chg (fun _ _ h=>h)) (hL9.later (Aa (w0:=w9)).chg (fun _ _ h=>h)) (hL10.later (Aa (w0:=w10)).chg (fun _ _ h=>h))).mono ?_;rintro e w11 ⟨f11,caps11,T11,rfl,_,hL11,hT11⟩;have hzc:w.heap.size≤zc:=(Aj.monoS (w0:=w) (Aj.of_born (z:=zc) 0)).out ⟨zc,0,none⟩ rfl;refine Yz hK_ ?_;clear hK_ K_;refine YS 22 ?_;refine Yd ?_
  rotate_left 1
 rotate_left 2
 all_goals
  go_wp2_with fail;go_ret;refine⟨f11,caps11,T11,rfl,Aa,hL11,fun x hx=> ?_⟩;rcases hT11 x hx with h|rfl|h|h|h|h|h|h
  ·exact .inl (Nat.le_trans (Aa (w0:=w)).chg.size h)
  ·exact .inl hzc
  ·exact .inl (Nat.le_trans (Aa (w0:=w)).chg.size (hT5 x h))
  ·rcases hT6 x h with h|rfl
   ·exact .inl (Nat.le_trans (Aa (w0:=w)).chg.size h)
   exact .inl hzb
  ·exact .inl (Nat.le_trans (Aa (w0:=w)).chg.size (hT7 x h))
  ·exact .inl (Nat.le_trans (Aa (w0:=w)).chg.size (hT8 x h))
  ·rcases hT9 x h with h|rfl
   ·exact .inl (Nat.le_trans (Aa (w0:=w)).chg.size h)
   exact .inl hzd
  exact .inl (Nat.le_trans (Aa (w0:=w)).chg.size (hT10 x h))
end Go.Proofs.YtjjhceeookpieaaGreat
end
section
open Go Go.RowKit
namespace Go.Proofs.YtjjhceeookpieaaGreat
theorem Gb: ∀a b c:List UInt8,Op.bytesLess a b=true→Op.bytesLess b c=true→Op.bytesLess a c=true
 |[],[],_,h,_=>by simp[Op.bytesLess] at h
 |_::_,[],_,h,_=>by simp[Op.bytesLess] at h
 |_,_::_,[],_,h=>by simp[Op.bytesLess] at h
 |[],_::_,_::_,_,_=>by simp[Op.bytesLess]
 |a::x,b::y,c::z,h1,h2=>by
  rw[Op.bytesLess] at h1 h2⊢;simp only[Bool.or_eq_true,Bool.and_eq_true,decide_eq_true_eq,beq_iff_eq] at h1 h2⊢;rcases h1 with h1|⟨h1,h3⟩<;>rcases h2 with h2|⟨h2,h4⟩
  ·exact .inl (UInt8.lt_trans h1 h2)
  ·subst h2;exact .inl h1
  ·subst h1;exact .inl h2
  subst h1 h2;exact .inr ⟨rfl,Gb x y z h3 h4⟩
structure Lp where
 l:List UInt8
 hw:List UInt8
 pub:Ak
 tl:List Value
 tlen:tl.length=37
 tone: ∀u∈tl,u.oneCell'=true
def Lp.cs (r:Lp):List Value:= .string (Al r.l):: .string (Al r.hw)::(bs r.pub.l++r.tl)
theorem Adf (r:Lp):r.cs.length=71:=by simp[Lp.cs,Am,r.tlen]
theorem Adg (r:Lp): ∀u∈r.cs,u.oneCell'=true:=by
 intro u hu;rcases List.mem_cons.1 hu with rfl|hu
 ·rfl
 rcases List.mem_cons.1 hu with rfl|hu
 ·rfl
 rcases List.mem_append.1 hu with h|h
 ·exact Ei r.pub.l u h
 exact r.tone u h
def tl0:List Value:= .bool false:: .string ⟨#[]⟩:: .string ⟨#[]⟩::(bs Aq.l++[.int .i64 0, .int .i64 0])
theorem Adh:tl0.length=37:=by simp[tl0,Am]
theorem Adi: ∀u∈tl0,u.oneCell'=true:=by
 intro u hu;rcases List.mem_cons.1 hu with rfl|hu
 ·rfl
 rcases List.mem_cons.1 hu with rfl|hu
 ·rfl
 rcases List.mem_cons.1 hu with rfl|hu
 ·rfl
 rcases List.mem_append.1 hu with h|h
 ·exact Ei Aq.l u h
 simp only[List.mem_cons,List.not_mem_nil,or_false] at h;rcases h with rfl|rfl<;>rfl
def Lp.new (l:List UInt8):Lp:=⟨l,[],Aq,tl0,Adh,Adi⟩
instance Al0:Af Lp:=⟨71,Lp.cs,Adf,Adg,Lp.new []⟩
def Al1:Array Value:=(Lp.new []).cs.toArray
def An7 (L:List Lp):Prop:=∀i j,i<j→j<L.length→Op.bytesLess (gt L i).l (gt L j).l =true
def Any (L:List Lp) (nm:List UInt8) (k:Nat):Prop:=k≤L.length∧(∀i,i<k→Op.bytesLess (gt L i).l nm=true)∧(∀i,k≤i→i<L.length→Op.bytesLess (gt L i).l nm=false)
def inE (L:List Lp) (nm:List UInt8) (k:Nat):Bool:=decide (k<L.length)&&decide ((gt L k).l =nm)
end Go.Proofs.YtjjhceeookpieaaGreat
end
section
set_option maxRecDepth 100000
set_option maxHeartbeats 3200000
open Go Go.RowKit
namespace Go.Proofs.YtjjhceeookpieaaGreat
def Ht (a b:Ad):Prop:=a.l=b.l∧a.ecu=b.ecu
theorem Jy (a b:Ad) (w:World):Calls Tryz.prog 53 #[.agg (Af.enc a).toArray, .agg (Af.enc b).toArray] w fun e w'=>∃r:Int,e= .returned (.int .i64 r)∧((r<0↔DK a b=true)∧(r=0↔Ht a b))∧Ag Ab w w':=by
 have hsa:(Af.enc a).toArray.size =37:=DB a;have hsb:(Af.enc b).toArray.size =37:=DB b;have hoa:=AY a;have hob:=AY b;go_enter Tryz.func53,Tryz.ntmps53;go_wp2_with (first|(refine Bv 2 ?_;intro za wza _ _ _)|(refine Bv 3 ?_;intro zb wzb _ _ _));have hA:HB wzb za 44 (Af.enc a).toArray :=inferInstance;have hB:HB wzb zb 44 (Af.enc b).toArray :=inferInstance;refine Ah (Ab) (by kernel_rfl) (fun wd _ _=> ?_);refine YS 0 ?_;refine IS 1 0 (Dn _) ?_;refine YS 2 ?_;refine IS 3 0 (Dn _) ?_;refine YS 5 ?_;refine IS 6 36 (EK _) ?_;refine YS 7 ?_;refine IS 8 36 (EK _) ?_;refine Yg 4 fun K_ hK_=> ?_
 go_simp;refine(Fq a.l b.l _).mono ?_;rintro e w5 ⟨r1,rfl,hr1,rfl⟩;have HR1:=Lib.hid hr1;clear hr1;refine Yz hK_ ?_;clear hK_ K_;refine Yg 9 fun K_ hK_=> ?_
 go_simp;refine(Fq a.ecu b.ecu _).mono ?_;rintro e w6 ⟨r2,rfl,hr2,rfl⟩;have HR2:=Lib.hid hr2;clear hr2;refine Yz hK_ ?_;clear hK_ K_;refine Yh 10 fun K_ hK_=> ?_
 (first|(refine BM 15 (GR _ _ _) ?_;intro zs wb _ _ _))
 refine Yn hK_ ?_;clear hK_ K_;refine Yg 11 fun K_ hK_=> ?_
 go_simp;refine(Nk r1 r2).mono ?_;obtain⟨R0,hR0⟩: ∃R,R=(if r1=0 then r2 else r1):=⟨_,rfl⟩;rw[←hR0];have HR0:=Lib.hid hR0;clear hR0;rintro e w7 ⟨rfl,rfl⟩;refine Yz hK_ ?_;clear hK_ K_;refine YS 12 ?_;refine Yd ?_;go_wp2_with fail;go_ret;refine⟨_,rfl,⟨?_, ?_⟩,Aa⟩
 ·rw[DK,HR0.out];by_cases h0:r1=0
  ·rw[if_pos h0,HR2.out.1];have h1:=HR1.out.2.1 h0;rw[h1,EQ];simp
  rw[if_neg h0,HR1.out.1];have h1:a.l≠b.l:=fun h=>h0 (HR1.out.2.2 h)
  simp[h1]
 rw[Ht,HR0.out];by_cases h0:r1=0
 ·rw[if_pos h0,HR2.out.2];exact⟨fun h=>⟨HR1.out.2.1 h0,h⟩,fun h=>h.2⟩
 rw[if_neg h0];exact⟨fun h=>absurd h h0,fun h=>absurd (HR1.out.2.2 h.1) h0⟩
theorem II (a b c:Ad) (h1:DK a b=true) (h2:DK b c=true):DK a c=true:=by
 unfold DK at*;simp only[Bool.or_eq_true,Bool.and_eq_true,decide_eq_true_eq] at h1 h2⊢;rcases h1 with h1|⟨h1,h3⟩<;>rcases h2 with h2|⟨h2,h4⟩
 ·exact .inl (Gb _ _ _ h1 h2)
 ·exact .inl (by rw[←h2];exact h1)
 ·exact .inl (by rw[h1];exact h2)
 exact .inr ⟨h1.trans h2,Gb _ _ _ h3 h4⟩
def Fn (T:List Ad):Prop:=∀i j,i<j→j<T.length→DK (gt T i) (gt T j)=true
def LE (T:List Ad) (x:Ad) (k:Nat):Prop:=k≤T.length∧(∀i,i<k→DK (gt T i) x=true)∧(∀i,k≤i→i<T.length→DK (gt T i) x=false)
def Ui (T:List Ad) (x:Ad) (k:Nat):Bool:=decide (k<T.length)&&(decide ((gt T k).l =x.l)&&decide ((gt T k).ecu =x.ecu))
theorem PW {A:Option Addr} {n c:Nat} {T:List Ad} (x:Ad) {w:World} [hr:HR w A (cellsOf T)] (hl:T.length=n) (hmax:n≤1000000000) (hrise:Fn T):
    Calls Tryz.prog 52 #[.slice A n c, .agg (Af.enc x).toArray, .func (.func 53) #[] #[]] w fun e w'=>∃k:Nat,e= .returned (.tuple #[.int .i64 (k:Int), .bool (Ui T x k)])∧Hid (LE T x k)∧Ag Ab w w':=by
 have HL:=Lib.hid hl;have HS:=Lib.hid hrise;have hsx:(Af.enc x).toArray.size =37:=DB x;have hox:=AY x;have HRR:=Lib.hid hr.out;clear hrise;go_enter Tryz.func52,Tryz.ntmps52;go_wp2_with (first|(refine Bv 4 ?_;intro zx wzx _ _ _));go_loopw [9,10] (fun lv hv wr=>∃lo hi:Nat,lo≤hi∧hi≤n∧lv= .int .i64 (lo:Int)∧hv= .int .i64 (hi:Int)∧Hid (∀i,i<lo→DK (gt T i) x=true)∧Hid (∀i,hi≤i→i<T.length→DK (gt T i) x=false)∧Ag Ab w wr∧HB wr zx 44 (Af.enc x).toArray) (fun lv hv _=>(intOf hv).toNat -(intOf lv).toNat)
 case atStart=>exact⟨0,n,Nat.zero_le _,Nat.le_refl _,rfl,rfl,Lib.hid (fun i h=>by omega),Lib.hid (fun i h1 h2=>by omega),Aa,inferInstance⟩
 case round=>
  obtain⟨lo,hi,hlh,hhn,rfl,rfl,HJ,HK,st,hx⟩:=hrel;have nr:Nw w wr:=⟨st.chg⟩;have hrw:HR wr A (cellsOf T):=⟨HRR.out.later st.chg⟩;by_cases hlt:lo<hi
  ·have hltI:(lo:Int)<(hi:Int):=by omega
   obtain⟨m,hm⟩: ∃m,m=(lo+hi)/2:=⟨_,rfl⟩;have hm1:lo≤m:=by omega
   have hm2:m<hi:=by omega
   have hkl:(lo+hi)/2<T.length:=by omega
   have hmI:(((lo+hi)/2:Nat):Int)=(m:Int):=by omega
   have HM:=Lib.hid hm;clear hm;go_wp2_with fail;refine Ah (Ab) (by kernel_rfl) (fun wd _ _=> ?_);refine YS 0 ?_;refine YS 1 ?_;refine YS 2 ?_;refine Gx 3 Ad 63 ?_;refine Vc 4 Ad 44 ?_;refine KW 5 ?_;refine Yg 6 fun K_ hK_=> ?_
   go_simp;refine(Jy (gt T ((lo+hi)/2)) x _).mono ?_;rw[←HM.out];rintro e w5 ⟨v,rfl,hv,st5⟩;have HV:=Lib.hid hv;clear hv;refine Yz hK_ ?_;clear hK_ K_;refine YS 7 ?_;refine Yd ?_;cases hb:DK (gt T m) x
   case true=>
    have hv0:v<0:=HV.out.1.2 hb;have HB1:=Lib.hid hb;clear hb HV;go_wp2_with fail;refine⟨⟨m+1,hi,by omega,by omega,by go_num,rfl,Lib.hid (fun i hi'=> ?_),HK,Aa,inferInstance⟩,by simp[intOf];omega⟩;by_cases e:i=m
    ·subst e;exact HB1.out
    exact II _ _ _ (HS.out i m (by omega) (by have:=HL.out;omega)) HB1.out
   case false=>
    have hv0: ¬v<0:=fun h=>by rw[HV.out.1.1 h] at hb;cases hb
    have HB1:=Lib.hid hb;clear hb HV;go_wp2_with fail;refine⟨⟨lo,m,by omega,by omega,rfl,by go_num,HJ,Lib.hid (fun i h1 h2=> ?_),Aa,inferInstance⟩,by simp[intOf];omega⟩;by_cases e:i=m
    ·subst e;exact HB1.out
    cases h3:DK (gt T i) x
    ·rfl
    rw[II _ _ _ (HS.out m i (by omega) h2) h3] at HB1;exact HB1.out
  have hltI: ¬(lo:Int)<(hi:Int):=by omega
  obtain rfl:lo=hi:=by omega
  by_cases hln:lo<n
  ·have hlnI:(lo:Int)<(n:Int):=by omega
   have hkl:lo<T.length:=by omega
   go_wp2_with fail;refine Ah (Ab) (by kernel_rfl) (fun wd _ _=> ?_);refine YS 0 ?_;refine YS 1 ?_;refine YS 2 ?_;refine YS 3 ?_;refine YS 4 ?_;refine YS 5 ?_;refine YS 6 ?_;refine YS 7 ?_;refine Gx 8 Ad 63 ?_;refine Vc 9 Ad 44 ?_;refine KW 10 ?_;refine Yg 11 fun K_ hK_=> ?_
   go_simp;refine(Jy (gt T lo) x _).mono ?_;rintro e w5 ⟨v,rfl,hv,st5⟩;have HV:=Lib.hid hv;clear hv;refine Yz hK_ ?_;clear hK_ K_;refine YS 12 ?_;refine YS 13 ?_;refine YS 14 ?_;refine YS 15 ?_;refine Yd ?_;go_wp2_with fail
   go_ret2
   refine⟨lo, ?_,Lib.hid ⟨by omega,HJ.out,HK.out⟩,Aa⟩;have e9:(v==0)=Ui T x lo:=by
    rw[Ui,decide_eq_true hkl,Bool.true_and,Bool.eq_iff_iff,beq_iff_eq,Bool.and_eq_true,decide_eq_true_eq,decide_eq_true_eq];exact HV.out.2
   rw[←e9];rfl
  have hlnI: ¬(lo:Int)<(n:Int):=by omega
  go_wp2_with fail;refine Ah (Ab) (by kernel_rfl) (fun wd _ _=> ?_);refine YS 0 ?_;refine YS 1 ?_;refine YS 2 ?_;refine YS 3 ?_;refine YS 4 ?_;refine YU 5 ?_;refine YU 6 ?_;refine YU 7 ?_;refine YU 8 ?_;refine YU 9 ?_;refine YU 10 ?_;refine YU 11 ?_;refine YU 12 ?_;refine YS 13 ?_;refine YS 14 ?_;refine YS 15 ?_;refine Yd ?_;go_wp2_with fail
  go_ret2
  refine⟨lo, ?_,Lib.hid ⟨by omega,HJ.out,HK.out⟩,Aa⟩;rw[Ui,decide_eq_false (by omega)];rfl
end Go.Proofs.YtjjhceeookpieaaGreat
end
section
set_option maxRecDepth 100000
set_option maxHeartbeats 1600000
open Go Go.RowKit
namespace Go.Proofs.YtjjhceeookpieaaGreat
theorem Wo {A:Option Addr} {n c z c2:Nat} {L:List Ad} (r:Ad) {w:World} [ho:HO w 44 37 A n c (cellsOf L)] [hb:HR w (some ⟨z,0,none⟩) (cellsOf [r])] (hl:L.length=n) (hn:n≤1000000):
    Calls Tryz.prog 25 #[.slice A n c, .int .i64 (n:Int), .slice (some ⟨z,0,none⟩) 1 c2] w fun e w'=>∃A' c',e= .returned (.slice A' (n+1) c')∧Ag (An A) w w'∧HO w' 44 37 A' (n+1) c' (cellsOf (L++[r]))∧Mc w A A'∧Hid (n+1≤c'):=by
 have hrl:HR w A (cellsOf L):=⟨ho.out.rd⟩;go_enter Tryz.func25,Tryz.ntmps25;go_wp2_with (first|((with_reducible apply(Li (k:=n)));exact rfl;exact rfl;infer_instance;exact Nat.le_refl _)|((with_reducible apply(Bb (α:=Ad)));exact rfl;exact rfl;infer_instance;exact ho;exact hb;exact rfl;exact rfl;omega;(decide);(decide);intro A2 c3 wa st2 ho2 hG hcap2));go_ret;exact⟨A2,c3,rfl,st2,ho2,hG,Lib.hid hcap2⟩
theorem IJ (r:Ad) (w:World):(Instr.buildSlice 63 1 #[(0, .agg (Af.enc r).toArray)]).run Tryz.prog w= .ok (.slice (some ⟨w.heap.size,0,none⟩) 1 1) (w.alloc (.cells (cellsOf [r]).toArray 44)):=by
 have hs:(Af.enc r).toArray.size =37:=Af.len r;have hz: ∀w,(zeroValue 44).run Tryz.prog w= .ok (.agg BZ) w:=fun _=>by kernel_rfl
 have hi: ∀w,(sizeOf 44).run Tryz.prog w= .ok 37 w:=fun _=>by kernel_rfl
 have hz1:BZ.size=37:=by kernel_rfl
 have he:(cellsOf [r]).toArray =(Af.enc r).toArray.toList.toArray :=by simp[cellsOf]
 rw[he];obtain⟨Z,hZ⟩: ∃Z:Array Value,Z=BZ:=⟨_,rfl⟩;obtain⟨R,hR⟩: ∃R:Array Value,R=(Af.enc r).toArray :=⟨_,rfl⟩;rw[←hZ] at hz hz1;rw[←hR] at hs⊢;clear hZ hR he;unfold Instr.buildSlice;simp only[Sem.run_bind,run_underlying Tryz.underlying63,Result.andThen_ok,hi];obtain⟨W,hW⟩: ∃W:Array Value,W=(Array.range (1*37)).map (Z[·%Z.size]!):=⟨_,rfl⟩;have hWs:W.size=37:=by rw[hW];simp
 have hf:Instr.fill (fun i=>some (i*37,37)) W [(0,Value.agg R)]=some R.toList.toArray:=by
  rw[AZ _ _ 0 (.agg R) _ (off:=0) (size:=37) rfl hs (by rw[hWs];decide)];have e:GH 0 R W=R.toList.toArray:=by
   unfold GH
   congr 1
   simp only[List.take_zero,List.nil_append,Nat.zero_add,hs];rw[List.drop_of_length_le (by simp[hWs]),List.append_nil]
  show Instr.fill _ (GH 0 R W) []=_;rw[e];rfl
 rw[hW] at hf;simp[hz,Value.cells,hf,newRow]
end Go.Proofs.YtjjhceeookpieaaGreat
end
