/- UhSnA, UhTgA -/
import Derived.Test.YtjjhceeookpieaaGreatUhZ
import Derived.Test.YtjjhceeookpieaaGreatUhWuB
import Derived.Test.YtjjhceeookpieaaGreatUhUnD
section
set_option maxRecDepth 100000
set_option maxHeartbeats 3200000
open Go Go.RowKit
namespace Go.Proofs.YtjjhceeookpieaaGreat
instance Ak4:Bm Tryz.prog 37 101 2 24 (.agg #[.string ⟨#[]⟩, .int .i64 0]):=⟨⟨Tryz.underlying37,by kernel_rfl,rfl,by decide⟩⟩
instance Ak5:Cl Tryz.prog 101 2:=⟨by kernel_rfl,_,Tryz.underlying101,rfl⟩
instance Ak6:Eb Tryz.prog 101 #[.string ⟨#[]⟩, .int .i64 0]:=⟨.agg #[.string ⟨#[]⟩, .int .i64 0],fun _=>by kernel_rfl,rfl⟩
instance Ait:Cl Tryz.prog 39 3:=⟨by kernel_rfl,_,Tryz.underlying39,rfl⟩
instance Aiu:Eb Tryz.prog 39 #[.int .i64 0, .int .i64 0, .slice none 0 0]:=⟨.agg #[.int .i64 0, .int .i64 0, .slice none 0 0],fun _=>by kernel_rfl,rfl⟩
instance Aiv:AL Tryz.prog 37:=⟨fun _=>by kernel_rfl,fun _=>by kernel_rfl⟩
instance Ah8:AL Tryz.prog 224:=⟨fun _=>by kernel_rfl,fun _=>by kernel_rfl⟩
instance Aiw:AL Tryz.prog 228:=⟨fun _=>by kernel_rfl,fun _=>by kernel_rfl⟩
theorem LK (p:AE):Eg (Af.enc p) 0=some (.string (Al p.l)):=rfl
theorem Sm (p:AE):Eg (Af.enc p) 1=some (.int .i64 p.v):=rfl
theorem Uo (k:AE) (w:World):
    Calls Tryz.prog 131 #[.agg (Af.enc k).toArray] w fun e w'=>e= .returned (.bool (Cd k))∧Ag Ab w w':=by
 have hsz:(Af.enc k).toArray.size =2:=rfl;unfold Cd;rcases h1:Bl k.l with _|_
 ·rw[Bool.false_and];go_enter Tryz.func131,Tryz.ntmps131;go_wp2_with (first|(refine Bv 1 ?_;intro zp wzp _ _ _)|((with_reducible apply Ac);exact rfl;infer_instance;(first|(exact rfl)|(exact tg_hw _)|(exact tg_ctr _)|(exact tg_ecu _)|(exact srch_who)|exact srch_fd)));refine(Bs (Al k.l) k.l rfl _).mono ?_;rw[h1];rintro e w5 ⟨rfl,_⟩;go_wp2_with (first|go_skip);go_ret;exact⟨rfl,Aa⟩
 rw[Bool.true_and];go_enter Tryz.func131,Tryz.ntmps131;go_wp2_with (first|(refine Bv 1 ?_;intro zp wzp _ _ _)|((with_reducible apply Ac);exact rfl;infer_instance;(first|(exact rfl)|(exact tg_hw _)|(exact tg_ctr _)|(exact tg_ecu _)|(exact srch_who)|exact srch_fd)));refine(Bs (Al k.l) k.l rfl _).mono ?_;rw[h1];rintro e w5 ⟨rfl,_⟩;go_wp2_with (first|(refine Ct ?_)|(refine CG ?_)|((with_reducible apply Ac);exact rfl;infer_instance;(first|(exact rfl)|(exact tg_hw _)|(exact tg_ctr _)|(exact tg_ecu _)|(exact srch_who)|exact srch_fd)));refine(Bh k.v _).mono ?_;rintro e w6 ⟨rfl,_⟩;go_wp2_with fail;go_ret;exact⟨rfl,Aa⟩
theorem Wt (k:AE) {w:World} {zi:Nat} {t:TypeId} [hz:HB w zi t #[.func (.func 131) #[] #[]]]:
    Calls Tryz.prog 194 #[.agg (Af.enc k).toArray, .pointer (some ⟨zi,0,none⟩)] w fun e w'=>e= .returned (.bool (!Cd k))∧Ag Ab w w':=by
 have hsz:=Ms k (n:=Af.size AE) rfl;have hon:=AY k;go_enter Tryz.func194,Tryz.ntmps194;go_wp2_with (first|(refine Bv 2 ?_;intro zk wzk _ _ _)|(refine Cp ?_)|((with_reducible apply Ac);exact rfl;infer_instance;(first|(exact rfl)|(exact tg_hw _)|(exact tg_ctr _)|(exact tg_ecu _)|(exact srch_who)|exact srch_fd)));refine(Uo k _).mono ?_;rintro e w5 ⟨rfl,_⟩;go_wp2_with fail;go_ret;exact⟨rfl,Aa⟩
theorem Wu {A:Option Addr} {n c zi:Nat} {t:TypeId} {K:List AE} {w:World} [hr:HR w A (cellsOf K)] [hz:HB w zi t #[.func (.func 131) #[] #[]]] (hl:K.length=n) (hmax:n≤9223372036854775807):
    Calls Tryz.prog 225 #[.slice A n c, .func (.func 194) #[] #[.pointer (some ⟨zi,0,none⟩)]] w fun e w'=>∃r:Int,e= .returned (.int .i64 r)∧(0≤r↔K.any (fun k=>!Cd k)=true)∧Ag Ab w w':=by
 have HL:=Lib.hid hl;obtain⟨R,hR⟩: ∃R,R=K.any (fun k=>!Cd k):=⟨_,rfl⟩;rw[←hR];have HRR:=Lib.hid hR;clear hR;go_enter Tryz.func225,Tryz.ntmps225;go_wp2_with fail;go_loopw [8] (fun kv wr=>∃k:Nat,k≤n∧kv= .int .i64 (k:Int)∧Hid ((K.take k).any (fun k=>!Cd k)=false)∧Ag Ab w wr) (fun kv _=>n -(intOf kv).toNat)
 case atStart=>exact⟨0,Nat.zero_le _,rfl,Lib.hid rfl,Aa⟩
 case round=>
  obtain⟨k,hk,rfl,HJ,_⟩:=hrel;by_cases hlt:k<n
  ·have hltI:(k:Int)<n:=by omega
   have hkl:k<K.length:=by omega
   have hmem:gt K k∈K:=BD K k hkl;have hts:(K.take (k+1)).any (fun k=>!Cd k)=((K.take k).any (fun k=>!Cd k)||!Cd (gt K k)):=by
    rw[←List.take_append_getElem hkl,List.any_append];simp[gt,List.getD_eq_getElem?_getD,hkl]
   obtain⟨V,hV⟩: ∃V,V=Cd (gt K k):=⟨_,rfl⟩;rw[HJ.out,Bool.false_or,←hV] at hts;have HV:=Lib.hid hV;have HTS:=Lib.hid hts;have HAL:Hid (V=false→R=true):=Lib.hid (fun h=>by rw[HRR.out];exact List.any_eq_true.2 ⟨_,hmem,by rw[←hV,h];rfl⟩);clear hmem hts hV;go_wp2_with (first|(refine Ja AE 37 ?_)|(refine Rk AE 101 ?_));refine(Wt (gt K k)).mono ?_;rw[←HV.out];rintro e w1 ⟨rfl,_⟩;cases V with
   |false=>
    have HAR:Hid (R=true):=Lib.hid (HAL.out rfl);clear HAL;go_wp2_with fail;go_ret;exact⟨_,rfl,⟨fun _=>HAR.out,fun _=>by omega⟩,Aa⟩
   |true=>
    go_wp2_with fail;exact⟨⟨k+1,by omega,by go_num,HTS,Aa⟩,by simp[intOf];omega⟩
  have hltI: ¬(k:Int)<n:=by omega
  have HF:Hid (R=false):=Lib.hid (by
   have h1:=HJ.out;rw[HRR.out];rwa[List.take_of_length_le (by omega)] at h1)
  go_wp2_with fail;go_ret;refine⟨_,rfl,⟨fun h=>by simp at h,fun h=> ?_⟩,Aa⟩;rw[HF.out] at h;cases h
theorem Up {A:Option Addr} {n c zi:Nat} {t:TypeId} {K:List AE} {w:World} [hr:HR w A (cellsOf K)] [hz:HB w zi t #[.func (.func 131) #[] #[]]] (hl:K.length=n) (hmax:n≤9223372036854775807):
    Calls Tryz.prog 193 #[.slice A n c, .func (.func 194) #[] #[.pointer (some ⟨zi,0,none⟩)]] w fun e w'=>e= .returned (.bool (K.any (fun k=>!Cd k)))∧Ag Ab w w':=by
 go_enter Tryz.func193,Tryz.ntmps193;go_wp2_with fail;refine(Wu (K:=K) hl hmax).mono ?_;rintro e w1 ⟨r,rfl,hr,_⟩;have hd:decide (0≤r)=K.any (fun k=>!Cd k):=by rw[Bool.eq_iff_iff,decide_eq_true_eq];exact hr
 have HD:=Lib.hid hd;clear hd hr;go_wp2_with fail;go_ret;refine⟨?_,Aa⟩;rw[←HD.out];rfl
theorem OW {A:Option Addr} {n c:Nat} {K:List AE} {w:World} [hr:HR w A (cellsOf K)] (hl:K.length=n) (hmax:n≤9223372036854775807):
    Calls Tryz.prog 130 #[.slice A n c, .func (.func 131) #[] #[]] w fun e w'=>e= .returned (.bool (K.all Cd))∧Ag Ab w w':=by
 have hd:(!K.any (fun k=>!Cd k))=K.all Cd:=by simp[List.all_eq_not_any_not]
 have HD:=Lib.hid hd;clear hd;go_enter Tryz.func130,Tryz.ntmps130;go_wp2_with (first|((with_reducible apply(Dd (dst:=some 3) (cs:=#[.func (.func 131) #[] #[]])));exact rfl;exact rfl;intro bl wbl _ _ _));refine(Up (K:=K) hl hmax).mono ?_;rintro e w5 ⟨rfl,_⟩;go_wp2_with fail;go_ret;refine⟨?_,Aa⟩;rw[←HD.out];rfl
theorem CX (s:ByteArray) (w:World):Calls Tryz.prog 169 #[.string s] w fun e w'=>e= .returned (.bool false)∧w'=w:=by
 have h:(!(s.toList==s.toList))=false:=by simp
 have h2:(s.toList==s.toList)=true:=by simp
 go_enter Tryz.func169,Tryz.ntmps169;go_wp2_with fail;go_ret;exact⟨rfl,rfl⟩
theorem OX (a b:List UInt8) (w:World):Calls Tryz.prog 100 #[.string (Al a), .string (Al b)] w fun e w'=>∃r:Int,e= .returned (.int .i64 r)∧(r<0↔Op.bytesLess a b=true)∧w'=w:=by
 cases hlt:Op.bytesLess a b
 case true=>
  have h1:Op.bytesLess (Al a).toList (Al b).toList =true:=by rw[AI,AI];exact hlt
  go_enter Tryz.func100,Tryz.ntmps100;go_wp2_with fail;refine(CX _ _).mono ?_;rintro e w1 ⟨rfl,rfl⟩;go_wp2_with fail;refine(CX _ _).mono ?_;rintro e w1 ⟨rfl,rfl⟩;go_wp2_with fail;go_ret;exact⟨-1,rfl,⟨fun _=>by first|trivial|rfl,fun _=>by decide⟩,rfl⟩
 case false=>
  have h1:Op.bytesLess (Al a).toList (Al b).toList =false:=by rw[AI,AI];exact hlt
  obtain⟨G,hG⟩: ∃G,G= !(Op.bytesLess (Al a).toList (Al b).toList ||(Al a).toList ==(Al b).toList):=⟨_,rfl⟩;have h2: ∀w,(binOp .gtr 9 (.string (Al a)) (.string (Al b))).run Tryz.prog w= .ok (.bool G) w:=fun w=>by
   rw[hG];simp[binOp,Op.stringOp]
  clear hG;cases G
  all_goals
   go_enter Tryz.func100,Tryz.ntmps100;go_wp2_with fail;refine(CX _ _).mono ?_;rintro e w1 ⟨rfl,rfl⟩;go_wp2_with fail;refine(CX _ _).mono ?_;rintro e w1 ⟨rfl,rfl⟩;go_wp2_with fail;go_ret;refine⟨_,rfl,⟨fun h=>absurd h (by decide),fun h=>by first|cases h|simp at h⟩,rfl⟩
theorem LL (a b:AE) (w:World):Calls Tryz.prog 133 #[.agg (Af.enc a).toArray, .agg (Af.enc b).toArray] w fun e w'=>∃r:Int,e= .returned (.int .i64 r)∧(r<0↔Nj a b=true)∧Ag Ab w w':=by
 have hsa:(Af.enc a).toArray.size =2:=rfl;have hsb:(Af.enc b).toArray.size =2:=rfl;go_enter Tryz.func133,Tryz.ntmps133;go_wp2_with (first|(refine Bv 2 ?_;intro za wza _ _ _)|(refine Bv 3 ?_;intro zb wzb _ _ _)|((with_reducible apply Ac);exact rfl;infer_instance;(first|(exact rfl)|(exact tg_hw _)|(exact tg_ctr _)|(exact tg_ecu _)|(exact srch_who)|exact srch_fd)));refine(OX a.l b.l _).mono ?_;rintro e w1 ⟨r,rfl,hr,rfl⟩;go_wp2_with fail;go_ret;exact⟨r,rfl,hr,Aa⟩
theorem Uq {A:Option Addr} {n c:Nat} {P:List AE} {w:World} [hr:HR w A (cellsOf P)] (hl:P.length=n) (hmax:n≤9223372036854775807):
    Calls Tryz.prog 132 #[.slice A n c, .func (.func 133) #[] #[]] w fun e w'=>e= .returned (.bool (GM P P.length))∧Ag Ab w w':=by
 obtain⟨R,hR⟩: ∃R,R=GM P P.length:=⟨_,rfl⟩;have HR0:=Lib.hid hR;rw[←hR];clear hR;go_enter Tryz.func132,Tryz.ntmps132;go_wp2_with fail;go_loopw [5] (fun iv wr=>∃k:Nat,1≤k∧k≤max n 1∧iv= .int .i64 (k:Int)∧Hid (GM P k=true)∧Ag Ab w wr) (fun iv _=>n -(intOf iv).toNat)
 case atStart=>exact⟨1,Nat.le_refl _,Nat.le_max_right _ _,rfl,Lib.hid rfl,Aa⟩
 case round=>
  obtain⟨k,h1,hk,rfl,HJ,st⟩:=hrel;have nr:Nw w wr:=⟨st.chg⟩;have hrw:HR wr A (cellsOf P):=inferInstance;by_cases hlt:k<n
  ·have hltI:(k:Int)<n:=by omega
   have hkl:k<P.length:=by omega
   have FS1:=Lib.hid (show IntKind.i64.wrap ((k:Int) -1)=((k -1:Nat):Int) by rw[IntKind.wrap_i64];omega);have hkp:k -1<P.length:=by omega
   have hts:GM P (k+1)=Nj (gt P (k -1)) (gt P k):=by rw[GM,HJ.out,Bool.true_and,decide_eq_false (by omega),Bool.false_or]
   obtain⟨V,hV⟩: ∃V,V=Nj (gt P (k -1)) (gt P k):=⟨_,rfl⟩;rw[←hV] at hts;have HV:=Lib.hid hV;have HTS:=Lib.hid hts;have HNO:Hid (V=false→R=false):=Lib.hid (fun h=>by rw[HR0.out];exact Uv P (k+1) (by rw[hts,h]) _ (by omega));clear hts hV;go_wp2_with fail;refine Ah (Ab) (by kernel_rfl) (fun wd _ _=> ?_);refine YS 0 ?_;refine YS 1 ?_;refine YS 2 ?_;refine YS 3 ?_
   try simp only[FS1.out]
   refine Gx 4 AE 37 ?_;refine Vc 5 AE 101 ?_;refine YS 6 ?_;refine YS 7 ?_;refine Gx 8 AE 37 ?_;refine Vc 9 AE 101 ?_;refine Yg 10 fun K_ hK_=> ?_
   go_simp;refine(LL (gt P (k -1)) (gt P k) _).mono ?_;rw[←HV.out];rintro e w5 ⟨r,rfl,hrr,_⟩;refine Yz hK_ ?_;clear hK_ K_;refine YS 11 ?_
   try simp only[FS1.out]
   refine Yd ?_;cases V
   case false=>
    have hr0:0≤r:=by
     by_cases h:r<0
     ·exact absurd (hrr.1 h) (by decide)
     omega
    have HF:Hid (R=false):=Lib.hid (HNO.out rfl);clear HNO hrr;go_wp2_with fail;go_ret;rw[HF.out];exact⟨rfl,Aa⟩
   case true=>
    have hr0: ¬0≤r:=by
     have:=hrr.2 rfl;omega
    clear HNO hrr;go_wp2_with fail;exact⟨⟨k+1,by omega,by omega,by go_num,HTS,Aa⟩,by simp[intOf];omega⟩
  have hltI: ¬(k:Int)<n:=by omega
  have HF:Hid (R=true):=Lib.hid (by
   rw[HR0.out,hl];rcases Nat.eq_zero_or_pos n with h0|h0
   ·rw[h0];rfl
   have:k=n:=by omega
   rw[←this];exact HJ.out)
  go_wp2_with fail;go_ret;rw[HF.out];exact⟨rfl,Aa⟩
theorem LM (v e0:Int) {A:Option Addr} {n c:Nat} {P:List AE} {w:World} [hr:HR w A (cellsOf P)] (hl:P.length=n) (hmax:n≤9223372036854775807):
    Calls Tryz.prog 66 #[.agg #[.int .i64 v, .int .i64 e0, .slice A n c]] w fun e w'=>e= .returned (.bool (BO v e0 P))∧Ag Ab w w':=by
 obtain⟨R,hR⟩: ∃R,R=BO v e0 P:=⟨_,rfl⟩;have hR2:=hR;rw[BO,hl] at hR2;have HR0:=Lib.hid hR2;rw[←hR];clear hR hR2;cases h1:BE v
 case false=>
  have HF:Hid (R=false):=Lib.hid (by rw[HR0.out,h1];simp);go_enter Tryz.func66,Tryz.ntmps66;go_wp2_with (first|(refine Bv 1 ?_;intro zt wzt _ _ _)|((with_reducible apply Ac);exact rfl;infer_instance;(first|(exact rfl)|(exact tg_hw _)|(exact tg_ctr _)|(exact tg_ecu _)|(exact srch_who)|exact srch_fd)));refine(Bh v _).mono ?_;rw[h1];rintro e w5 ⟨rfl,_⟩;go_wp2_with (first|go_skip);go_ret;rw[HF.out];exact⟨rfl,Aa⟩
 case true=>
  cases h2:Ca e0
  case false=>
   have HF:Hid (R=false):=Lib.hid (by rw[HR0.out,h2];simp);go_enter Tryz.func66,Tryz.ntmps66;go_wp2_with (first|(refine Bv 1 ?_;intro zt wzt _ _ _)|((with_reducible apply Ac);exact rfl;infer_instance;(first|(exact rfl)|(exact tg_hw _)|(exact tg_ctr _)|(exact tg_ecu _)|(exact srch_who)|exact srch_fd)));refine(Bh v _).mono ?_;rw[h1];rintro e w5 ⟨rfl,_⟩;go_wp2_with (first|(refine Ct ?_)|(refine CG ?_)|((with_reducible apply Ac);exact rfl;infer_instance;(first|(exact rfl)|(exact tg_hw _)|(exact tg_ctr _)|(exact tg_ecu _)|(exact srch_who)|exact srch_fd)));refine(Cj e0 _).mono ?_;rw[h2];rintro e w6 ⟨rfl,_⟩;go_wp2_with (first|go_skip);go_ret;rw[HF.out];exact⟨rfl,Aa⟩
  case true=>
   by_cases h16:n≤16
   ·have h16I:(n:Int)≤16:=by omega
    have HF:Hid (R=(P.all Cd&&GM P P.length)):=Lib.hid (by rw[HR0.out,h1,h2,decide_eq_true h16,hl];simp);obtain⟨B,hB⟩: ∃B,B=P.all Cd:=⟨_,rfl⟩;have HB1:=Lib.hid hB;clear hB HR0;cases B
    case false=>
     go_enter Tryz.func66,Tryz.ntmps66;go_wp2_with (first|(refine Bv 1 ?_;intro zt wzt _ _ _)|((with_reducible apply Ac);exact rfl;infer_instance;(first|(exact rfl)|(exact tg_hw _)|(exact tg_ctr _)|(exact tg_ecu _)|(exact srch_who)|exact srch_fd)));refine(Bh v _).mono ?_;rw[h1];rintro e w5 ⟨rfl,_⟩;go_wp2_with (first|(refine Ct ?_)|(refine CG ?_)|((with_reducible apply Ac);exact rfl;infer_instance;(first|(exact rfl)|(exact tg_hw _)|(exact tg_ctr _)|(exact tg_ecu _)|(exact srch_who)|exact srch_fd)));refine(Cj e0 _).mono ?_;rw[h2];rintro e w6 ⟨rfl,_⟩;go_wp2_with (first|(refine Ct ?_)|(refine CG ?_)|((with_reducible apply Ac);exact rfl;infer_instance;(first|(exact rfl)|(exact tg_hw _)|(exact tg_ctr _)|(exact tg_ecu _)|(exact srch_who)|exact srch_fd)));refine(OW (K:=P) hl hmax).mono ?_;rw[←HB1.out];rintro e w7 ⟨rfl,_⟩;go_wp2_with (first|go_skip);go_ret;rw[HF.out,←HB1.out];exact⟨rfl,Aa⟩
    case true=>
     go_enter Tryz.func66,Tryz.ntmps66;go_wp2_with (first|(refine Bv 1 ?_;intro zt wzt _ _ _)|((with_reducible apply Ac);exact rfl;infer_instance;(first|(exact rfl)|(exact tg_hw _)|(exact tg_ctr _)|(exact tg_ecu _)|(exact srch_who)|exact srch_fd)));refine(Bh v _).mono ?_;rw[h1];rintro e w5 ⟨rfl,_⟩;go_wp2_with (first|(refine Ct ?_)|(refine CG ?_)|((with_reducible apply Ac);exact rfl;infer_instance;(first|(exact rfl)|(exact tg_hw _)|(exact tg_ctr _)|(exact tg_ecu _)|(exact srch_who)|exact srch_fd)));refine(Cj e0 _).mono ?_;rw[h2];rintro e w6 ⟨rfl,_⟩;go_wp2_with (first|(refine Ct ?_)|(refine CG ?_)|((with_reducible apply Ac);exact rfl;infer_instance;(first|(exact rfl)|(exact tg_hw _)|(exact tg_ctr _)|(exact tg_ecu _)|(exact srch_who)|exact srch_fd)));refine(OW (K:=P) hl hmax).mono ?_;rw[←HB1.out];rintro e w7 ⟨rfl,_⟩;go_wp2_with (first|(refine Ct ?_)|(refine CG ?_)|((with_reducible apply Ac);exact rfl;infer_instance;(first|(exact rfl)|(exact tg_hw _)|(exact tg_ctr _)|(exact tg_ecu _)|(exact srch_who)|exact srch_fd)));refine(Uq (P:=P) hl hmax).mono ?_;rintro e w8 ⟨rfl,_⟩;go_wp2_with fail;go_ret;rw[HF.out,←HB1.out,Bool.true_and,hl];exact⟨rfl,Aa⟩
   have h16I: ¬(n:Int)≤16:=by omega
   have HF:Hid (R=false):=Lib.hid (by rw[HR0.out,decide_eq_false h16];simp);go_enter Tryz.func66,Tryz.ntmps66;go_wp2_with (first|(refine Bv 1 ?_;intro zt wzt _ _ _)|((with_reducible apply Ac);exact rfl;infer_instance;(first|(exact rfl)|(exact tg_hw _)|(exact tg_ctr _)|(exact tg_ecu _)|(exact srch_who)|exact srch_fd)));refine(Bh v _).mono ?_;rw[h1];rintro e w5 ⟨rfl,_⟩;go_wp2_with (first|(refine Ct ?_)|(refine CG ?_)|((with_reducible apply Ac);exact rfl;infer_instance;(first|(exact rfl)|(exact tg_hw _)|(exact tg_ctr _)|(exact tg_ecu _)|(exact srch_who)|exact srch_fd)));refine(Cj e0 _).mono ?_;rw[h2];rintro e w6 ⟨rfl,_⟩;go_wp2_with (first|go_skip|(refine WGC ?_)|(refine Ct ?_)|(refine CG ?_)|((with_reducible apply Ac);exact rfl;infer_instance;(first|(exact rfl)|(exact tg_hw _)|(exact tg_ctr _)|(exact tg_ecu _)|(exact srch_who)|exact srch_fd)));go_ret;rw[HF.out];exact⟨rfl,Aa⟩
end Go.Proofs.YtjjhceeookpieaaGreat
end
section
set_option maxRecDepth 100000
set_option maxHeartbeats 3200000
open Go Go.RowKit
namespace Go.Proofs.YtjjhceeookpieaaGreat
structure Ad where
 l:List UInt8
 size:Int
 sum:Ak
 hw:List UInt8
 ctr:Int
 ecu:List UInt8
def Ad.cs (t:Ad):List Value:= .string (Al t.l):: .int .i64 t.size::(bs t.sum.l++[.string (Al t.hw), .int .i64 t.ctr, .string (Al t.ecu)])
theorem DB (t:Ad):t.cs.length=37:=by simp[Ad.cs,Am]
theorem Xq (t:Ad): ∀u∈t.cs,u.oneCell'=true:=by
 intro u hu;rcases List.mem_cons.1 hu with rfl|hu
 ·rfl
 rcases List.mem_cons.1 hu with rfl|hu
 ·rfl
 rcases List.mem_append.1 hu with h|h
 ·exact Ei t.sum.l u h
 simp only[List.mem_cons,List.not_mem_nil,or_false] at h;rcases h with rfl|rfl|rfl<;>rfl
instance Am7:Af Ad:=⟨37,Ad.cs,DB,Xq,⟨[],0,Aq,[],0,[]⟩⟩
def BZ:Array Value:=#[.string ⟨#[]⟩, .int .i64 0]++Aw Aq.l++#[.string ⟨#[]⟩, .int .i64 0, .string ⟨#[]⟩]
instance Am8:Bm Tryz.prog 63 44 37 96 (.agg BZ):=⟨⟨Tryz.underlying63,by kernel_rfl,rfl,by decide⟩⟩
instance Am9:Cl Tryz.prog 44 37:=⟨by kernel_rfl,_,Tryz.underlying44,rfl⟩
instance Ak9:Eb Tryz.prog 44 BZ:=⟨.agg BZ,fun _=>by kernel_rfl,rfl⟩
instance Aka:AL Tryz.prog 63:=⟨fun _=>by kernel_rfl,fun _=>by kernel_rfl⟩
instance Akb:AL Tryz.prog 64:=⟨fun _=>by kernel_rfl,fun _=>by kernel_rfl⟩
instance Aix:AL Tryz.prog 87:=⟨fun _=>by kernel_rfl,fun _=>by kernel_rfl⟩
instance Akc:AL Tryz.prog 220:=⟨fun _=>by kernel_rfl,fun _=>by kernel_rfl⟩
theorem Dn (t:Ad):Eg (Af.enc t) 0=some (.string (Al t.l)):=rfl
theorem El (t:Ad):Eg (Af.enc t) 1=some (.int .i64 t.size):=rfl
theorem OZ (t:Ad) (i:Nat):(Af.enc t)[34+i]? =([.string (Al t.hw), .int .i64 t.ctr, .string (Al t.ecu)]:List Value)[i]? :=by
 show(Value.string (Al t.l):: .int .i64 t.size::(bs t.sum.l++[.string (Al t.hw), .int .i64 t.ctr, .string (Al t.ecu)]))[34+i]? =_;rw[show 34+i=(32+i)+1+1 by omega,List.getElem?_cons_succ,List.getElem?_cons_succ,List.getElem?_append_right (by rw[Am,t.sum.len];omega),Am,t.sum.len,Nat.add_sub_cancel_left]
theorem Gg (t:Ad):Eg (Af.enc t) 34=some (.string (Al t.hw)):=by rw[←Bp];exact OZ t 0
theorem IK (t:Ad):Eg (Af.enc t) 35=some (.int .i64 t.ctr):=by rw[←Bp];exact OZ t 1
theorem EK (t:Ad):Eg (Af.enc t) 36=some (.string (Al t.ecu)):=by rw[←Bp];exact OZ t 2
theorem Sq (t:Ad):((Af.enc t).drop 2).take 32=bs t.sum.l:=by
 show(bs t.sum.l++_).take 32=_;rw[List.take_left' (by rw[Am,t.sum.len])]
def DX (t:Ad):Bool:=Bl t.l&&decide (0≤t.size)&&decide (t.size≤512)&&Bl t.hw&&Ca t.ctr&&Fw t.ecu
theorem Pb (t:Ad) (w:World):
    Calls Tryz.prog 118 #[.agg (Af.enc t).toArray] w fun e w'=>e= .returned (.bool (DX t))∧Ag Ab w w':=by
 have hsz:(Af.enc t).toArray.size =37:=DB t;have hon:=AY t;obtain⟨R,hR⟩: ∃R,R=DX t:=⟨_,rfl⟩;have HR0:Hid (R=(Bl t.l&&decide (0≤t.size)&&decide (t.size≤512)&&Bl t.hw&&Ca t.ctr&&Fw t.ecu)):=Lib.hid hR;rw[←hR];clear hR;cases h0:Bl t.l
 case false=>
  have HF:Hid (R=false):=Lib.hid (by rw[HR0.out,h0];simp);go_enter Tryz.func118,Tryz.ntmps118;go_wp2_with (first|(refine WL 4 0 (Dn _) ?_)|(refine Bv 1 ?_;intro zt wzt _ _ _));refine(Bs (Al t.l) t.l rfl _).mono ?_;rw[h0];rintro e w5 ⟨rfl,_⟩;go_wp2_with (first|go_skip);go_ret;rw[HF.out];exact⟨rfl,Aa⟩
 by_cases h1:0≤t.size;rotate_left
 focus
  have HF:Hid (R=false):=Lib.hid (by rw[HR0.out,decide_eq_false h1];simp);go_enter Tryz.func118,Tryz.ntmps118;go_wp2_with (first|(refine WL 4 0 (Dn _) ?_)|(refine Bv 1 ?_;intro zt wzt _ _ _));refine(Bs (Al t.l) t.l rfl _).mono ?_;rw[h0];rintro e w5 ⟨rfl,_⟩;go_wp2_with (first|go_skip|(refine WL 8 1 (El _) ?_)|(refine Ct ?_)|(refine CG ?_));go_ret;rw[HF.out];exact⟨rfl,Aa⟩
 by_cases h2:t.size≤512;rotate_left
 focus
  have HF:Hid (R=false):=Lib.hid (by rw[HR0.out,decide_eq_false h2];simp);go_enter Tryz.func118,Tryz.ntmps118;go_wp2_with (first|(refine WL 4 0 (Dn _) ?_)|(refine Bv 1 ?_;intro zt wzt _ _ _));refine(Bs (Al t.l) t.l rfl _).mono ?_;rw[h0];rintro e w5 ⟨rfl,_⟩;go_wp2_with (first|go_skip|(refine WL 8 1 (El _) ?_)|(refine WL 13 1 (El _) ?_)|(refine Ct ?_)|(refine CG ?_));go_ret;rw[HF.out];exact⟨rfl,Aa⟩
 have HR1:Hid (R=(Bl t.hw&&Ca t.ctr&&Fw t.ecu)):=Lib.hid (by rw[HR0.out,h0,decide_eq_true h1,decide_eq_true h2];simp);clear HR0;cases h3:Bl t.hw
 case false=>
  have HF:Hid (R=false):=Lib.hid (by rw[HR1.out,h3];simp);go_enter Tryz.func118,Tryz.ntmps118;go_wp2_with (first|(refine WL 4 0 (Dn _) ?_)|(refine Bv 1 ?_;intro zt wzt _ _ _));refine(Bs (Al t.l) t.l rfl _).mono ?_;rw[h0];rintro e w5 ⟨rfl,_⟩;go_wp2_with (first|(refine WL 8 1 (El _) ?_)|(refine WL 13 1 (El _) ?_)|(refine WL 18 34 (Gg _) ?_)|(refine Ct ?_)|(refine CG ?_));refine(Bs (Al t.hw) t.hw rfl _).mono ?_;rw[h3];rintro e w6 ⟨rfl,_⟩;go_wp2_with (first|go_skip);go_ret;rw[HF.out];exact⟨rfl,Aa⟩
 cases h4:Ca t.ctr
 case false=>
  have HF:Hid (R=false):=Lib.hid (by rw[HR1.out,h4];simp);go_enter Tryz.func118,Tryz.ntmps118;go_wp2_with (first|(refine WL 4 0 (Dn _) ?_)|(refine Bv 1 ?_;intro zt wzt _ _ _));refine(Bs (Al t.l) t.l rfl _).mono ?_;rw[h0];rintro e w5 ⟨rfl,_⟩;go_wp2_with (first|(refine WL 8 1 (El _) ?_)|(refine WL 13 1 (El _) ?_)|(refine WL 18 34 (Gg _) ?_)|(refine Ct ?_)|(refine CG ?_));refine(Bs (Al t.hw) t.hw rfl _).mono ?_;rw[h3];rintro e w6 ⟨rfl,_⟩;go_wp2_with (first|(refine WL 23 35 (IK _) ?_)|(refine Ct ?_)|(refine CG ?_));refine(Cj t.ctr _).mono ?_;rw[h4];rintro e w7 ⟨rfl,_⟩;go_wp2_with (first|go_skip);go_ret;rw[HF.out];exact⟨rfl,Aa⟩
 have HF:Hid (R=Fw t.ecu):=Lib.hid (by rw[HR1.out,h3,h4];simp);clear HR1;go_enter Tryz.func118,Tryz.ntmps118;go_wp2_with (first|(refine WL 4 0 (Dn _) ?_)|(refine Bv 1 ?_;intro zt wzt _ _ _));refine(Bs (Al t.l) t.l rfl _).mono ?_;rw[h0];rintro e w5 ⟨rfl,_⟩;go_wp2_with (first|(refine WL 8 1 (El _) ?_)|(refine WL 13 1 (El _) ?_)|(refine WL 18 34 (Gg _) ?_)|(refine Ct ?_)|(refine CG ?_));refine(Bs (Al t.hw) t.hw rfl _).mono ?_;rw[h3];rintro e w6 ⟨rfl,_⟩;go_wp2_with (first|(refine WL 23 35 (IK _) ?_)|(refine Ct ?_)|(refine CG ?_));refine(Cj t.ctr _).mono ?_;rw[h4];rintro e w7 ⟨rfl,_⟩;go_wp2_with (first|(refine WL 28 36 (EK _) ?_)|(refine Ct ?_)|(refine CG ?_));refine(Nr (Al t.ecu) t.ecu rfl _).mono ?_;rintro e w8 ⟨rfl,_⟩;go_wp2_with fail;go_ret;rw[HF.out];exact⟨rfl,Aa⟩
theorem ES (t:Ad) (w:World) (hs:(Al t.l).size ≤9223372036854775807∧(Al t.hw).size ≤9223372036854775807∧(Al t.ecu).size ≤9223372036854775807):
    Calls Tryz.prog 234 #[.agg (Af.enc t).toArray] w fun e w'=>e= .returned (.bool (DX t))∧Ag Ab w w':=by
 have hsz:(Af.enc t).toArray.size =37:=DB t;have hon:=AY t;have kb1:=AM t.ctr;have HS:=Lib.hid hs;clear hs;obtain⟨R,hR⟩: ∃R,R=DX t:=⟨_,rfl⟩;have HR0:Hid (R=(Bl t.l&&decide (0≤t.size)&&decide (t.size≤512)&&Bl t.hw&&Ca t.ctr&&Fw t.ecu)):=Lib.hid hR;rw[←hR];clear hR;cases h0:Bl t.l
 case false=>
  have HF:Hid (R=false):=Lib.hid (by rw[HR0.out,h0];simp);go_enter Tryz.func234,Tryz.ntmps234;go_wp2_with (first|(refine WL 4 0 (Dn _) ?_)|(refine Bv 1 ?_;intro zt wzt _ _ _));refine(AJ (Al t.l) t.l rfl HS.out.1 _).mono ?_;rw[h0];rintro e w5 ⟨rfl,_⟩;go_wp2_with (first|go_skip);go_ret;rw[HF.out];exact⟨rfl,Aa⟩
 by_cases h1:0≤t.size;rotate_left
 focus
  have HF:Hid (R=false):=Lib.hid (by rw[HR0.out,decide_eq_false h1];simp);go_enter Tryz.func234,Tryz.ntmps234;go_wp2_with (first|(refine WL 4 0 (Dn _) ?_)|(refine Bv 1 ?_;intro zt wzt _ _ _));refine(AJ (Al t.l) t.l rfl HS.out.1 _).mono ?_;rw[h0];rintro e w5 ⟨rfl,_⟩;go_wp2_with (first|go_skip|(refine WL 8 1 (El _) ?_)|(refine Ct ?_)|(refine CG ?_));go_ret;rw[HF.out];exact⟨rfl,Aa⟩
 by_cases h2:t.size≤512;rotate_left
 focus
  have HF:Hid (R=false):=Lib.hid (by rw[HR0.out,decide_eq_false h2];simp);go_enter Tryz.func234,Tryz.ntmps234;go_wp2_with (first|(refine WL 4 0 (Dn _) ?_)|(refine Bv 1 ?_;intro zt wzt _ _ _));refine(AJ (Al t.l) t.l rfl HS.out.1 _).mono ?_;rw[h0];rintro e w5 ⟨rfl,_⟩;go_wp2_with (first|go_skip|(refine WL 8 1 (El _) ?_)|(refine WL 13 1 (El _) ?_)|(refine Ct ?_)|(refine CG ?_));go_ret;rw[HF.out];exact⟨rfl,Aa⟩
 have HR1:Hid (R=(Bl t.hw&&Ca t.ctr&&Fw t.ecu)):=Lib.hid (by rw[HR0.out,h0,decide_eq_true h1,decide_eq_true h2];simp);clear HR0;cases h3:Bl t.hw
 case false=>
  have HF:Hid (R=false):=Lib.hid (by rw[HR1.out,h3];simp);go_enter Tryz.func234,Tryz.ntmps234;go_wp2_with (first|(refine WL 4 0 (Dn _) ?_)|(refine Bv 1 ?_;intro zt wzt _ _ _));refine(AJ (Al t.l) t.l rfl HS.out.1 _).mono ?_;rw[h0];rintro e w5 ⟨rfl,_⟩;go_wp2_with (first|(refine WL 8 1 (El _) ?_)|(refine WL 13 1 (El _) ?_)|(refine WL 18 34 (Gg _) ?_)|(refine Ct ?_)|(refine CG ?_));refine(AJ (Al t.hw) t.hw rfl HS.out.2.1 _).mono ?_;rw[h3];rintro e w6 ⟨rfl,_⟩;go_wp2_with (first|go_skip);go_ret;rw[HF.out];exact⟨rfl,Aa⟩
 cases h4:Ca t.ctr
 case false=>
  have HF:Hid (R=false):=Lib.hid (by rw[HR1.out,h4];simp);go_enter Tryz.func234,Tryz.ntmps234;go_wp2_with (first|(refine WL 4 0 (Dn _) ?_)|(refine Bv 1 ?_;intro zt wzt _ _ _));refine(AJ (Al t.l) t.l rfl HS.out.1 _).mono ?_;rw[h0];rintro e w5 ⟨rfl,_⟩;go_wp2_with (first|(refine WL 8 1 (El _) ?_)|(refine WL 13 1 (El _) ?_)|(refine WL 18 34 (Gg _) ?_)|(refine Ct ?_)|(refine CG ?_));refine(AJ (Al t.hw) t.hw rfl HS.out.2.1 _).mono ?_;rw[h3];rintro e w6 ⟨rfl,_⟩;go_wp2_with (first|(refine WL 23 35 (IK _) ?_)|(refine BM 24 (kb1 _) ?_;intro zb wb _ _ _)|(refine Ct ?_)|(refine WGB ?_)|(refine CG ?_));have hr2:HR wb (some ⟨zb,0,none⟩) (Ic [t.ctr]):=HR.ints1 (inferInstance:HB wb zb 3 #[.int .i64 t.ctr]);refine(Dv (l:=[t.ctr]) (n:=1) (c:=1) rfl (by decide)).mono ?_;rw[FK,h4];rintro e w7 ⟨rfl,_⟩;go_wp2_with (first|go_skip);go_ret;rw[HF.out];exact⟨rfl,Aa⟩
 have HF:Hid (R=Fw t.ecu):=Lib.hid (by rw[HR1.out,h3,h4];simp);clear HR1;have he0:(Al t.ecu).toList.isEmpty =t.ecu.isEmpty:=by
  rw[AI]
 cases h5:t.ecu.isEmpty
 case true=>
  have hE:(Al t.ecu).toList.isEmpty =true:=by rw[he0,h5]
  have HF2:Hid (R=true):=Lib.hid (by rw[HF.out,Fw,h5];rfl);clear he0;go_enter Tryz.func234,Tryz.ntmps234;go_wp2_with (first|(refine WL 4 0 (Dn _) ?_)|(refine Bv 1 ?_;intro zt wzt _ _ _));refine(AJ (Al t.l) t.l rfl HS.out.1 _).mono ?_;rw[h0];rintro e w5 ⟨rfl,_⟩;go_wp2_with (first|(refine WL 8 1 (El _) ?_)|(refine WL 13 1 (El _) ?_)|(refine WL 18 34 (Gg _) ?_)|(refine Ct ?_)|(refine CG ?_));refine(AJ (Al t.hw) t.hw rfl HS.out.2.1 _).mono ?_;rw[h3];rintro e w6 ⟨rfl,_⟩;go_wp2_with (first|(refine WL 23 35 (IK _) ?_)|(refine BM 24 (kb1 _) ?_;intro zb wb _ _ _)|(refine Ct ?_)|(refine WGB ?_)|(refine CG ?_));have hr2:HR wb (some ⟨zb,0,none⟩) (Ic [t.ctr]):=HR.ints1 (inferInstance:HB wb zb 3 #[.int .i64 t.ctr]);refine(Dv (l:=[t.ctr]) (n:=1) (c:=1) rfl (by decide)).mono ?_;rw[FK,h4];rintro e w7 ⟨rfl,_⟩;go_wp2_with (first|go_skip|(refine WL 29 36 (EK _) ?_)|(refine Ct ?_)|(refine CG ?_));go_ret;rw[HF2.out];exact⟨rfl,Aa⟩
 case false=>
  have hE:(Al t.ecu).toList.isEmpty =false:=by rw[he0,h5]
  have HF2:Hid (R=Bl t.ecu):=Lib.hid (by rw[HF.out,Fw,h5,Bool.false_or]);clear he0;go_enter Tryz.func234,Tryz.ntmps234;go_wp2_with (first|(refine WL 4 0 (Dn _) ?_)|(refine Bv 1 ?_;intro zt wzt _ _ _));refine(AJ (Al t.l) t.l rfl HS.out.1 _).mono ?_;rw[h0];rintro e w5 ⟨rfl,_⟩;go_wp2_with (first|(refine WL 8 1 (El _) ?_)|(refine WL 13 1 (El _) ?_)|(refine WL 18 34 (Gg _) ?_)|(refine Ct ?_)|(refine CG ?_));refine(AJ (Al t.hw) t.hw rfl HS.out.2.1 _).mono ?_;rw[h3];rintro e w6 ⟨rfl,_⟩;go_wp2_with (first|(refine WL 23 35 (IK _) ?_)|(refine BM 24 (kb1 _) ?_;intro zb wb _ _ _)|(refine Ct ?_)|(refine WGB ?_)|(refine CG ?_));have hr2:HR wb (some ⟨zb,0,none⟩) (Ic [t.ctr]):=HR.ints1 (inferInstance:HB wb zb 3 #[.int .i64 t.ctr]);refine(Dv (l:=[t.ctr]) (n:=1) (c:=1) rfl (by decide)).mono ?_;rw[FK,h4];rintro e w7 ⟨rfl,_⟩;go_wp2_with (first|(refine WL 29 36 (EK _) ?_)|(refine WL 33 36 (EK _) ?_)|(refine Ct ?_)|(refine CG ?_));refine(AJ (Al t.ecu) t.ecu rfl HS.out.2.2 _).mono ?_;rintro e w8 ⟨rfl,_⟩;go_wp2_with fail;go_ret;rw[HF2.out];exact⟨rfl,Aa⟩
end Go.Proofs.YtjjhceeookpieaaGreat
end
