/- UhOtD, UhOtP, UhOtQ -/
import Derived.Test.YtjjhceeookpieaaGreatUhZ
import Derived.Test.YtjjhceeookpieaaGreatUhTy
import Derived.Test.YtjjhceeookpieaaGreatUhBase
section
set_option maxRecDepth 100000
set_option maxHeartbeats 800000
open Go Go.RowKit
namespace Go.Proofs.YtjjhceeookpieaaGreat
instance Ald:Eb Tryz.prog 186 (Df (List.replicate 36 0)):=⟨.agg (Df (List.replicate 36 0)),fun _=>by kernel_rfl,rfl⟩
instance Ale:Cl Tryz.prog 186 36:=⟨by kernel_rfl,_,Tryz.underlying186,rfl⟩
theorem PI (z:Nat) (tz:TypeId) (ds:List Int) (hd:ds.length=36) (h:Ak) (i:Nat) (hi:i<36) (w:World) [HB w z tz (Df ds)]:
    Calls Tryz.prog 105 #[.pointer (some ⟨z,0,none⟩), .agg (Aw h.l), .int .i64 (i:Int)] w fun e w'=>e= .returned (.agg (Aw (Ev i 0 (Ej ds i) h).l))∧Ag Ab w w':=by
 have hid:i<ds.length:=by omega
 have hiI:(i:Int)<36:=by omega
 go_enter Tryz.func105,Tryz.ntmps105;go_wp2_with (first|(refine Bv 4 ?_;intro zh wzh _ _ _)|(refine BB 6 ?_;intro zo wzo _ _ _));refine Ah ((only zo)) (by kernel_rfl) (fun wd _ _=> ?_);refine KW 0 ?_;refine YS 1 ?_;refine YS 2 ?_;refine YS 3 ?_;refine YS 4 ?_;refine YS 5 ?_;refine YS 6 ?_;refine YLI 7 3 ?_;refine Yg 8 fun K_ hK_=> ?_
 go_simp;refine(Oy h i 0 (Ej ds i) _).mono ?_;rintro e w4 ⟨rfl,_⟩;refine Yz hK_ ?_;clear hK_ K_;refine Yh 9 fun K_ hK_=> ?_
 (first|(refine Bt ?_;intro ws _ _)|(refine ZD 3 ?_;intro ws _ _)|(refine WSX 5 ?_;intro ws _ _)|(refine KZ ?_;intro ws _ _)|(refine WSH 23 ?_;intro ws _ _))
 refine Ym hK_ ?_;clear hK_ K_;refine Yd ?_;go_wp2_with fail;exact Bo rfl rfl (n:=32) (Ak.size _) rfl ⟨rfl,Aa⟩
theorem TQ (z:Nat) (tz:TypeId) (ds:List Int) (hd:ds.length=36) (h:Ak) (i:Nat) (hi:i<36) (w:World) [HB w z tz (Df ds)]:
    Calls Tryz.prog 168 #[.pointer (some ⟨z,0,none⟩), .agg (Aw h.l), .int .i64 (i:Int)] w fun e w'=>e= .returned (.agg (Aw (Ev i (Ej ds i) 3 h).l))∧Ag Ab w w':=by
 have hid:i<ds.length:=by omega
 have hiI:(i:Int)<36:=by omega
 go_enter Tryz.func168,Tryz.ntmps168;go_wp2_with (first|(refine Bv 4 ?_;intro zh wzh _ _ _)|(refine BB 6 ?_;intro zo wzo _ _ _));refine Ah ((only zo)) (by kernel_rfl) (fun wd _ _=> ?_);refine KW 0 ?_;refine YS 1 ?_;refine YS 2 ?_;refine YS 3 ?_;refine YS 4 ?_;refine YS 5 ?_;refine YS 6 ?_;refine YLI 7 3 ?_;refine Yg 8 fun K_ hK_=> ?_
 go_simp;refine(Oy h i (Ej ds i) 3 _).mono ?_;rintro e w4 ⟨rfl,_⟩;refine Yz hK_ ?_;clear hK_ K_;refine Yh 9 fun K_ hK_=> ?_
 (first|(refine Bt ?_;intro ws _ _)|(refine ZD 3 ?_;intro ws _ _)|(refine WSX 5 ?_;intro ws _ _)|(refine KZ ?_;intro ws _ _)|(refine WSH 23 ?_;intro ws _ _))
 refine Ym hK_ ?_;clear hK_ K_;refine Yd ?_;go_wp2_with fail;exact Bo rfl rfl (n:=32) (Ak.size _) rfl ⟨rfl,Aa⟩
theorem Ou (zs zl:Nat) (seed:Ak) (leaf:Int) (h:Ak) (i:Nat) (w:World) {ts tl:TypeId} [HB w zs ts (Aw seed.l)] [HB w zl tl #[.int .i64 leaf]]:
    Calls Tryz.prog 171 #[.agg (Aw h.l), .int .i64 (i:Int), .pointer (some ⟨zs,0,none⟩), .pointer (some ⟨zl,0,none⟩)] w fun e w'=>e= .returned (.agg (Aw (NE seed leaf i).l))∧Ag Ab w w':=by
 go_enter Tryz.func171,Tryz.ntmps171;go_wp2_with (first|(refine Bv 4 ?_;intro zh wzh _ _ _)|(refine BB 6 ?_;intro zo wzo _ _ _)|(refine Cp ?_)|((with_reducible apply EE);exact rfl;infer_instance;exact rfl));refine(RR seed leaf i _).mono ?_;rintro e w4 ⟨rfl,_⟩;go_wp2_with (first|(refine Bt ?_;intro ws _ _));exact Bo rfl rfl (n:=32) (Ak.size _) rfl ⟨rfl,Aa⟩
def FR (seed:Ak) (leaf:Int):List Ak:=Hp (fun _ i=>NE seed leaf i) (List.replicate 36 Aq) 36
theorem Ks (seed:Ak) (leaf:Int) (w:World):
    Calls Tryz.prog 104 #[.agg (Aw seed.l), .int .i64 leaf] w fun e w'=>∃z,e= .returned (.slice (some ⟨z,0,none⟩) 36 36)∧Ag Ab w w'∧Aj w (some ⟨z,0,none⟩)∧HO w' 23 32 (some ⟨z,0,none⟩) 36 36 (cellsOf (FR seed leaf)):=by
 go_enter Tryz.func104,Tryz.ntmps104;go_wp2_with (first|((with_reducible apply(Lh (n:=36)));exact rfl;exact rfl;infer_instance;(decide);intro zm wm _ _ _)|(refine Bv 2 ?_;intro zs wzs _ _ _)|((with_reducible apply(Jj (dst:=some 3)));exact rfl;intro zl wzl _ _ _));refine(KL (l:=List.replicate 36 Aq) (by simp) (Nat.le_refl _) 171 (fun _ _=>by kernel_rfl) #[] #[.pointer (some ⟨zs,0,none⟩), .pointer (some ⟨zl,0,none⟩)] (fun _ i=>NE seed leaf i) (fun w' hw' h i _=>by
  have hs:Ag Ab _ w':=⟨hw'.out⟩;exact Ou zs zl seed leaf h i w')).mono ?_
 rintro e w5 ⟨z,rfl,_,hA,_⟩;go_wp2_with fail;go_ret;exact⟨z,rfl,Aa,hA.mono,inferInstance⟩
def PJ (b:UInt8) (k:Nat):Int:=bits BinOp.and IntKind.i64 (wrap64 ((b.toNat:Int)/2^(6 -2*(k%4)))) 3
theorem Aap: ∀b:Fin 256,∀j:Fin 4,PJ (UInt8.ofNat b.val) j.val=((b.val/2^(6 -2*j.val)%4:Nat):Int):=by decide+kernel
theorem Ae2 (b:UInt8) (k:Nat):PJ b k=((b.toNat/2^(6 -2*(k%4))%4:Nat):Int):=by
 have h:=Aap ⟨b.toNat,b.toNat_lt⟩ ⟨k%4,Nat.mod_lt _ (by decide)⟩;simp only[UInt8.ofNat_toNat] at h;rw[←h];unfold PJ;simp only[Nat.mod_mod]
theorem ND (b:UInt8) (k:Nat):0≤PJ b k∧PJ b k≤3:=by rw[Ae2];omega
def DT (h:Ak) (k:Nat):List Int:=(List.range k).map fun i=>PJ (Eo h.l (i/4)) i
def left (h:Ak):Nat→Int
 |0=>0
 |k+1=>left h k+(3 -PJ (Eo h.l (k/4)) k)
theorem Lu (h:Ak): ∀k,0≤left h k∧left h k≤3*k
 |0=>by simp[left]
 |k+1=>by have:=Lu h k;have:=ND (Eo h.l (k/4)) k;simp only[left];omega
theorem Fl (h:Ak) (k:Nat):(DT h k).length =k:=by simp[DT]
theorem QF (h:Ak) (k:Nat):DT h (k+1)=DT h k++[PJ (Eo h.l (k/4)) k]:=by simp[DT,List.range_succ]
def Gc (ds:List Int):List Int:=ds++List.replicate (36 -ds.length) 0
theorem Lv (ds:List Int) (d:Int) (h:ds.length<36):(Gc ds).set ds.length d=Gc (ds++[d]):=by
 unfold Gc;rw[List.set_append_right _ _ (Nat.le_refl _),Nat.sub_self,List.append_assoc,List.length_append]
 congr 1
 have e:36 -ds.length=(36 -(ds.length+[d].length))+1:=by simp;omega
 rw[e,List.replicate_succ];rfl
theorem Lw (ds:List Int) (h:ds.length≤36):(Gc ds).length =36:=by simp[Gc];omega
def Dm:Nat→Int→List Int
 |0,_=>[]
 |n+1,q=>Dm n q++[q/4^n%4]
theorem Ih (n:Nat) (q:Int):(Dm n q).length =n:=by
 induction n with
 |zero=>rfl
 |succ n ih=>simp[Dm,ih]
theorem Aaq: ∀q:Fin 97,bits BinOp.and IntKind.i64 (q.val:Int) 3=(q.val:Int)%4:=by decide+kernel
theorem Ahy (q:Int) (h0:0≤q) (h1:q≤96):bits BinOp.and IntKind.i64 q 3=q%4:=by
 have h:=Aaq ⟨q.toNat,by omega⟩;simp only[Int.toNat_of_nonneg h0] at h;exact h
def Bf (xs:List UInt8):List Int:=DT (Gw xs) 32++Dm 4 (left (Gw xs) 32)
theorem PK {A:Option Addr} {n c:Nat} {xs:List UInt8} {w:World} [HR w A (bs xs)] (hl:xs.length=n) (hc:n≤c) (hn:n≤140737488351232):
    Calls Tryz.prog 102 #[.slice A n c] w fun e w'=>e= .returned (.agg (Df (Bf xs)))∧Ag Ab w w':=by
 obtain⟨H,hH⟩: ∃H,H=Gw xs:=⟨_,rfl⟩;go_enter Tryz.func102,Tryz.ntmps102;go_wp2_with (first|(refine BB 2 ?_;intro zo wzo _ _ _)|(refine BB 3 ?_;intro zd wzd _ _ _));refine(WB (xs:=xs) hl hc hn).mono ?_;rintro e w4 ⟨rfl,_⟩;rw[←hH];have HH:=Lib.hid hH;clear hH;go_wp2_with (first|(refine BB 4 ?_;intro zh wzh _ _ _)|(refine Bt ?_;intro ws _ _));go_loopw [5,6,10] (fun less i j wr=>∃k:Nat,k≤32∧j= .int .i64 (k:Int)∧less= .int .i64 (left H k)∧Ag Ab w wr∧HB wr zo 186 (Df (List.replicate 36 0))∧HB wr zh 23 (Aw H.l)∧HB wr zd 186 (Df (Gc (DT H k)))) (fun _ _ j _=>32 -(intOf j).toNat)
 case atStart=>exact⟨0,by omega,rfl,rfl,Aa,inferInstance,inferInstance,(inferInstance:HB _ zd _ (Df (List.replicate 36 0)))⟩
 case round=>
  obtain⟨k,hk,rfl,rfl,_,_,_,_⟩:=hrel;by_cases hlt:k<32
  ·have hdl:=Fl H k;have hzl:=Lw (DT H k) (by omega);have hkl:k<(Gc (DT H k)).length :=by omega
   have hkI:(k:Int)<36:=by omega
   have hk4:k/4<H.l.length:=by rw[Ak.len_];omega
   have hk4I:(k:Int)/4<32:=by omega
   have hq:=Lu H k;obtain⟨d,hd⟩: ∃d,d=PJ (Eo H.l (k/4)) k:=⟨_,rfl⟩;have hfold:bits BinOp.and IntKind.i64 (wrap64 (((Eo H.l (k/4)).toNat :Int)/2^(6 -2*(k%4)))) 3=d:=hd.symm;have hdi:0≤d∧d≤3:=by rw[hd];exact ND _ _
   have AG:=SZ (Gc (DT H k)) k d hkl;have hkl2:k<((Gc (DT H k)).set k d).length :=by rw[List.length_set];exact hkl
   obtain⟨hdi0,hdi3⟩:=hdi;obtain⟨hq0,hq1⟩:=hq;have HD:=Lib.hid hd;clear hd;go_wp2_with (first|(refine WLI 3 ?_)|(refine WLB 5 ?_)|(refine ZD 3 ?_;intro ws _ _));refine⟨⟨k+1,by omega,by go_num, ?_,Aa,inferInstance,inferInstance, ?_⟩,by simp[intOf];omega⟩
   ·rw[left,←HD.out]
   have e:=Lv (DT H k) d (by omega);rw[hdl,HD.out,←QF,←HD.out] at e;rw[←e];exact inferInstance
  have hk32:Hid (k=32):=Lib.hid (by omega);have hge:32≤k:=by omega
  have hq:=Lu H k;have hdl:=Fl H k;go_wp2_with fail;go_loopw [5,7] (fun less j wr=>∃m:Nat,m≤4∧j= .int .i64 (32+(m:Int))∧less= .int .i64 (left H k/4^m)∧Ag Ab w wr∧HB wr zo 186 (Df (List.replicate 36 0))∧HB wr zd 186 (Df (Gc (DT H k++Dm m (left H k))))) (fun _ j _=>36 -(intOf j).toNat)
  case atStart=>exact⟨0,by omega,rfl,by simp,Aa,inferInstance,by simp only[Dm,List.append_nil];exact inferInstance⟩
  case round=>
   obtain⟨m,hm,rfl,rfl,_,_,_⟩:=hrel;have hll:(DT H k++Dm m (left H k)).length =32+m:=by rw[List.length_append,Fl,Ih];omega
   have hzl:=Lw (DT H k++Dm m (left H k)) (by omega);obtain⟨hq0,hq1⟩:=hq;obtain⟨q,hqd⟩: ∃q,q=left H k/4^m:=⟨_,rfl⟩;have hqin:0≤q∧q≤96:=by
    rw[hqd];rcases(show m=0∨m=1∨m=2∨m=3∨m=4 by omega) with rfl|rfl|rfl|rfl|rfl<;>omega
   obtain⟨hqi0,hqi1⟩:=hqin;have hand:=Ahy q hqi0 hqi1;by_cases hlt:m<4
   ·have hkl:32+m<(Gc (DT H k++Dm m (left H k))).length :=by omega
    have hkI:32+(m:Int)<36:=by omega
    have hoff:(32+(m:Int)).toNat =32+m:=by omega
    have HQ:=Lib.hid hqd;rw[←HQ.out];clear hqd hdl;have HLL:=Lib.hid hll;clear hll;go_wp2_with (first|(refine ZD 3 ?_;intro ws _ _));refine⟨⟨m+1,by omega,by go_num, ?_,Aa,inferInstance, ?_⟩,by simp[intOf];omega⟩
    ·rw[HQ.out,Int.pow_succ,Int.ediv_ediv_of_nonneg (Int.pow_nonneg (by decide))]
    have e:=Lv (DT H k++Dm m (left H k)) (q%4) (by have:=HLL.out;omega);rw[HLL.out] at e;have e2:DT H k++Dm m (left H k)++[q%4]=DT H k++Dm (m+1) (left H k):=by rw[HQ.out,Dm,List.append_assoc]
    rw[←e2,←e];exact inferInstance
   have HM:Hid (m=4):=Lib.hid (by omega);have hge4:4≤m:=by omega
   have hsz:(Df (Gc (DT H k++Dm m (left H k)))).size =36:=by rw[Gy];exact hzl
   have h1c:=Lc (Gc (DT H k++Dm m (left H k)));go_wp2_with (first|(refine Cp ?_)|(refine Bt ?_;intro ws _ _));refine Bo rfl rfl (n:=36) hsz rfl ⟨?_,Aa⟩;have e:Gc (DT H k++Dm m (left H k))=Bf xs:=by
    rw[HM.out,hk32.out,Gc,List.length_append,Fl,Ih,Bf,←HH.out];simp
   rw[e]
theorem Ov {A:Option Addr} {n c:Nat} {xs:List UInt8} {w:World} [HR w A (bs xs)] (hl:xs.length=n) (hn:n≤140737488351232):
    Calls Tryz.prog 211 #[.slice A n c] w fun e w'=>e= .returned (.agg (Df (Bf xs)))∧Ag Ab w w':=by
 obtain⟨H,hH⟩: ∃H,H=Gw xs:=⟨_,rfl⟩;go_enter Tryz.func211,Tryz.ntmps211;go_wp2_with (first|(refine BB 2 ?_;intro zo wzo _ _ _)|(refine BB 3 ?_;intro zd wzd _ _ _));refine(Nn (xs:=xs) hl hn).mono ?_;rintro e w4 ⟨rfl,_⟩;rw[←hH];have HH:=Lib.hid hH;clear hH;go_wp2_with (first|(refine BB 4 ?_;intro zh wzh _ _ _)|(refine Bt ?_;intro ws _ _));go_loopw [5,6] (fun less j wr=>∃k:Nat,k≤32∧j= .int .i64 (k:Int)∧less= .int .i64 (left H k)∧Ag Ab w wr∧HB wr zo 186 (Df (List.replicate 36 0))∧HB wr zh 23 (Aw H.l)∧HB wr zd 186 (Df (Gc (DT H k)))) (fun _ j _=>32 -(intOf j).toNat)
 case atStart=>exact⟨0,by omega,rfl,rfl,Aa,inferInstance,inferInstance,(inferInstance:HB _ zd _ (Df (List.replicate 36 0)))⟩
 case round=>
  obtain⟨k,hk,rfl,rfl,_,_,_,_⟩:=hrel;by_cases hlt:k<32
  ·have hdl:=Fl H k;have hzl:=Lw (DT H k) (by omega);have hkl:k<(Gc (DT H k)).length :=by omega
   have hkI:(k:Int)<36:=by omega
   have hk4:k/4<H.l.length:=by rw[Ak.len_];omega
   have hk4I:(k:Int)/4<32:=by omega
   have hq:=Lu H k;obtain⟨d,hd⟩: ∃d,d=PJ (Eo H.l (k/4)) k:=⟨_,rfl⟩;have hfold:bits BinOp.and IntKind.i64 (wrap64 (((Eo H.l (k/4)).toNat :Int)/2^(6 -2*(k%4)))) 3=d:=hd.symm;have hdi:0≤d∧d≤3:=by rw[hd];exact ND _ _
   have AG:=SZ (Gc (DT H k)) k d hkl;have hkl2:k<((Gc (DT H k)).set k d).length :=by rw[List.length_set];exact hkl
   obtain⟨hdi0,hdi3⟩:=hdi;obtain⟨hq0,hq1⟩:=hq;have HD:=Lib.hid hd;clear hd;go_wp2_with (first|(refine WLI 3 ?_)|(refine WLB 5 ?_)|(refine ZD 3 ?_;intro ws _ _));refine⟨⟨k+1,by omega,by go_num, ?_,Aa,inferInstance,inferInstance, ?_⟩,by simp[intOf];omega⟩
   ·rw[left,←HD.out];go_num
   have e:=Lv (DT H k) d (by omega);rw[hdl,HD.out,←QF,←HD.out] at e;rw[←e];exact inferInstance
  have hk32:Hid (k=32):=Lib.hid (by omega);have hge:32≤k:=by omega
  have hq:=Lu H k;have hdl:=Fl H k;go_wp2_with fail;go_loopw [5,7] (fun less j wr=>∃m:Nat,m≤4∧j= .int .i64 (32+(m:Int))∧less= .int .i64 (left H k/4^m)∧Ag Ab w wr∧HB wr zo 186 (Df (List.replicate 36 0))∧HB wr zd 186 (Df (Gc (DT H k++Dm m (left H k))))) (fun _ j _=>36 -(intOf j).toNat)
  case atStart=>exact⟨0,by omega,rfl,by simp,Aa,inferInstance,by simp only[Dm,List.append_nil];exact inferInstance⟩
  case round=>
   obtain⟨m,hm,rfl,rfl,_,_,_⟩:=hrel;have hll:(DT H k++Dm m (left H k)).length =32+m:=by rw[List.length_append,Fl,Ih];omega
   have hzl:=Lw (DT H k++Dm m (left H k)) (by omega);obtain⟨hq0,hq1⟩:=hq;obtain⟨q,hqd⟩: ∃q,q=left H k/4^m:=⟨_,rfl⟩;have hqin:0≤q∧q≤96:=by
    rw[hqd];rcases(show m=0∨m=1∨m=2∨m=3∨m=4 by omega) with rfl|rfl|rfl|rfl|rfl<;>omega
   obtain⟨hqi0,hqi1⟩:=hqin;have hand:=Ahy q hqi0 hqi1;by_cases hlt:m<4
   ·have hkl:32+m<(Gc (DT H k++Dm m (left H k))).length :=by omega
    have hkI:32+(m:Int)<36:=by omega
    have hoff:(32+(m:Int)).toNat =32+m:=by omega
    have HQ:=Lib.hid hqd;rw[←HQ.out];clear hqd hdl;have HLL:=Lib.hid hll;clear hll;go_wp2_with (first|(refine ZD 3 ?_;intro ws _ _));refine⟨⟨m+1,by omega,by go_num, ?_,Aa,inferInstance, ?_⟩,by simp[intOf];omega⟩
    ·rw[HQ.out,Int.pow_succ,Int.ediv_ediv_of_nonneg (Int.pow_nonneg (by decide))]
    have e:=Lv (DT H k++Dm m (left H k)) (q%4) (by have:=HLL.out;omega);rw[HLL.out] at e;have e2:DT H k++Dm m (left H k)++[q%4]=DT H k++Dm (m+1) (left H k):=by rw[HQ.out,Dm,List.append_assoc]
    rw[←e2,←e];exact inferInstance
   have HM:Hid (m=4):=Lib.hid (by omega);have hge4:4≤m:=by omega
   have hsz:(Df (Gc (DT H k++Dm m (left H k)))).size =36:=by rw[Gy];exact hzl
   have h1c:=Lc (Gc (DT H k++Dm m (left H k)));go_wp2_with (first|(refine Cp ?_)|(refine Bt ?_;intro ws _ _));refine Bo rfl rfl (n:=36) hsz rfl ⟨?_,Aa⟩;have e:Gc (DT H k++Dm m (left H k))=Bf xs:=by
    rw[HM.out,hk32.out,Gc,List.length_append,Fl,Ih,Bf,←HH.out];simp
   rw[e]
theorem RN {A:Option Addr} {n c:Nat} {xs:List UInt8} {w:World} [HR w A (bs xs)] (hl:xs.length=n) (hc:n≤c) (hn:n≤100000):
    Calls Tryz.prog 102 #[.slice A n c] w fun e w'=>e= .returned (.agg (Df (Bf xs)))∧Ag Ab w w':=PK hl hc (by omega)
end Go.Proofs.YtjjhceeookpieaaGreat
end
section
set_option maxRecDepth 100000
set_option maxHeartbeats 800000
open Go Go.RowKit
namespace Go.Proofs.YtjjhceeookpieaaGreat
theorem Aas (l:List Int) (k:Nat) (h:k<l.length):Ej l k∈l:=by
 simp[Ej,List.getD_eq_getElem?_getD,List.getElem?_eq_getElem h]
theorem Js (xs:List UInt8):(Bf xs).length =36:=by simp[Bf,Fl,Ih]
def IF (seed:Ak) (leaf:Int):Ak:=JT (Hp (fun h i=>Ev i 0 3 h) (FR seed leaf) 36)
def Kt (seed:Ak) (leaf:Int) (m:List UInt8):List Ak:=Hp (fun h i=>Ev i 0 (Ej (Bf m) i) h) (FR seed leaf) 36
def Ii (m:List UInt8) (l:List Ak):Ak:=JT (Hp (fun h i=>Ev i (Ej (Bf m) i) 3 h) l 36)
instance Alf:Eb Tryz.prog 189 (Df (List.replicate 36 0)):=⟨.agg (Df (List.replicate 36 0)),fun _=>by kernel_rfl,rfl⟩
instance Alg:Cl Tryz.prog 189 36:=⟨by kernel_rfl,_,Tryz.underlying189,rfl⟩
theorem RQ (seed:Ak) (leaf:Int) (w:World):
    Calls Tryz.prog 98 #[.agg (Aw seed.l), .int .i64 leaf] w fun e w'=>e= .returned (.agg (Aw (IF seed leaf).l))∧Ag Ab w w':=by
 go_enter Tryz.func98,Tryz.ntmps98;go_wp2_with (first|(refine Bv 2 ?_;intro zs wzs _ _ _)|(refine BB 4 ?_;intro zo wzo _ _ _)|(refine BB 5 ?_;intro zw wzw _ _ _)|(refine Cp ?_));refine(Ks seed leaf _).mono ?_;rintro e w5 ⟨z,rfl,_,_,_⟩;go_wp2_with fail;refine(KL (l:=FR seed leaf) (by simp[FR,FS]) (Nat.le_refl _) 168 (fun _ _=>by kernel_rfl) #[.pointer (some ⟨zw,0,none⟩)] #[] (fun h i=>Ev i 0 3 h) (fun w' hw' h i hi=>by
  have hs:Ag Ab _ w':=⟨hw'.out⟩;have e:=TQ zw _ (List.replicate 36 0) rfl h i hi w';rw[XK] at e;exact e)).mono ?_
 rintro e w6 ⟨z2,rfl,_,_,_⟩;go_wp2_with fail;refine(RO (l:=Hp (fun h i=>Ev i 0 3 h) (FR seed leaf) 36) (FS _ _ _) (by decide)).mono ?_;rintro e w7 ⟨rfl,_⟩;go_wp2_with (first|(refine Bt ?_;intro ws _ _));exact Bo rfl rfl (n:=32) (Ak.size _) rfl ⟨rfl,Aa⟩
theorem VS (ds:List Int) (hd:ds.length=36) (w:World):(Instr.build 189 #[(0, .agg (Df ds))]).run Tryz.prog w= .ok (.agg (Df ds)) w:=by
 have hs:(Df ds).size =36:=by rw[Gy,hd]
 refine Cu Tryz.underlying189 (zv:= .agg (Df (List.replicate 36 0))) (fun _=>by kernel_rfl) (places:=#[(0,36)]) (fun _=>by kernel_rfl) ?_ w;show Instr.fill _ (Df (List.replicate 36 0)) [(0, .agg (Df ds))]=_;rw[AZ _ _ 0 (.agg (Df ds)) [] (off:=0) (size:=36) rfl hs (by decide),JN _ _ (by show(Df ds).size =_;rw[hs];rfl)];rfl
theorem Ox {A:Option Addr} {n c:Nat} {m:List UInt8} (seed:Ak) (leaf:Int) {w:World} [HR w A (bs m)] (hl:m.length=n) (hc:n≤c) (hn:n≤100000):
    Calls Tryz.prog 56 #[.agg (Aw seed.l), .int .i64 leaf, .slice A n c] w fun e w'=>∃z,e= .returned (.slice (some ⟨z,0,none⟩) 36 36)∧Ag Ab w w'∧Aj w (some ⟨z,0,none⟩)∧HO w' 23 32 (some ⟨z,0,none⟩) 36 36 (cellsOf (Kt seed leaf m)):=by
 have hd:=Js m;have hsz:(Df (Bf m)).size =36:=by rw[Gy,hd]
 have h1:=Lc (Bf m);have kb:=VS (Bf m) hd;go_enter Tryz.func56,Tryz.ntmps56;go_wp2_with (first|(refine Bv 3 ?_;intro zs wzs _ _ _));refine(RN (xs:=m) hl hc hn).mono ?_;rintro e w4 ⟨rfl,_⟩;go_wp2_with (first|(refine Ji (kb _) ?_)|(refine BB 7 ?_;intro zw wzw _ _ _)|(refine Cp ?_)|(refine Bt ?_;intro ws _ _));refine(Ks seed leaf _).mono ?_;rintro e w5 ⟨z,rfl,_,_,_⟩;go_wp2_with fail;refine(KL (l:=FR seed leaf) (by simp[FR,FS]) (Nat.le_refl _) 105 (fun _ _=>by kernel_rfl) #[.pointer (some ⟨zw,0,none⟩)] #[] (fun h i=>Ev i 0 (Ej (Bf m) i) h) (fun w' hw' h i hi=>by
  have hs:Ag Ab _ w':=⟨hw'.out⟩;exact PI zw _ (Bf m) hd h i hi w')).mono ?_
 rintro e w6 ⟨z2,rfl,_,hA,_⟩;go_wp2_with fail;go_ret;exact⟨z2,rfl,Aa,hA.mono,inferInstance⟩
end Go.Proofs.YtjjhceeookpieaaGreat
end
section
set_option maxRecDepth 100000
set_option maxHeartbeats 800000
open Go Go.RowKit
namespace Go.Proofs.YtjjhceeookpieaaGreat
theorem TR (h:Ak) (chain f t:Int) (w:World):
    Calls Tryz.prog 154 #[.agg (Aw h.l), .int .i64 chain, .int .i64 f, .int .i64 t] w fun e w'=>e= .returned (.agg (Aw (Ev chain f t h).l))∧Ag Ab w w':=by
 obtain⟨s,hs⟩: ∃s:Nat,(s:Int)=max f 0:=⟨(max f 0).toNat,by omega⟩;have hs':max f 0=(s:Int):=hs.symm;obtain⟨n,hn⟩: ∃n:Nat,n=(min t 3 -max f 0).toNat :=⟨_,rfl⟩;have HN:=Lib.hid hn;have HS:Hid ((max f 0).toNat =s):=Lib.hid (by omega);have hn1:(s:Int)+n≤3∨n=0:=by omega
 have hn2: ∀k:Nat,k<n→(s:Int)+k<min t 3:=fun k hk=>by omega
 have HE:Hid (∀k:Nat,k≤n→¬k<n→¬(s:Int)+k<min t 3):=Lib.hid (fun k h1 h2=>by omega);have HL:=Lib.hid hn2;clear hn hs hn2;go_enter Tryz.func154,Tryz.ntmps154;go_wp2_with (first|(refine Bv 4 ?_;intro zh wzh _ _ _)|(refine BB 8 ?_;intro zo wzo _ _ _)|((with_reducible apply Rn);exact rfl;exact rfl));go_loopw [9] (fun i wr=>∃k:Nat,k≤n∧i= .int .i64 ((s:Int)+k)∧Ag Ab w wr∧HB wr zo 23 (Aw Aq.l)∧HB wr zh 23 (Aw (Hg chain s k h).l)) (fun i _=>(s+n) -(intOf i).toNat)
 case atStart=>exact⟨0,Nat.zero_le _,by rw[Int.natCast_zero,Int.add_zero],Aa,inferInstance,inferInstance⟩
 case round=>
  obtain⟨k,hk,rfl,_,_,_⟩:=hrel;by_cases hlt:k<n
  ·have hlt3:=HL.out k hlt;have kb2: ∀w,(Instr.buildSlice 55 3 #[(0, .int .u8 1),(1, .int .u8 (chain%256)),(2, .int .u8 ((s:Int)+k))]).run Tryz.prog w= .ok (.slice (some ⟨w.heap.size,0,none⟩) 3 3) (w.alloc (.cells (Aw [1,b8 chain,b8 ((s:Int)+k)]) 5)):=fun _=>by rw[Rm,ZM (n:=(s:Int)+k) (by omega) (by omega),Ada];kernel_rfl
   have hm1:MG ([(1:UInt8),b8 chain,b8 ((s:Int)+k)].length ≤maxLen):=⟨by simp[maxLen]⟩;go_wp2_with (first|(refine WBs (kb2 _) ?_;intro zb wb _ _ _)|((with_reducible apply Lf);exact rfl;exact rfl)|(refine NO ?_;intro A' c' wa _ _ _ hcap));refine(KU (xs:=[1,b8 chain,b8 ((s:Int)+k)]++(Hg chain s k h).l) (by simp) (by decide)).mono ?_;rintro e w5 ⟨rfl,_⟩;go_wp2_with (first|(refine Bt ?_;intro ws _ _));refine⟨⟨k+1,by omega,by go_num,Aa,inferInstance, ?_⟩,by simp[intOf];omega⟩;rw[KM];exact inferInstance
  have hge:=HE.out k hk hlt;have hge': ¬(s:Int)+k<min t 3:=by omega
  have hkn:Hid (k=n):=Lib.hid (by omega);go_wp2_with (first|(refine Cp ?_)|(refine Bt ?_;intro ws _ _)|((with_reducible apply Lf);exact rfl;exact rfl));refine Bo rfl rfl (n:=32) (Ak.size _) rfl ⟨?_,Aa⟩;rw[hkn.out,Ev,HS.out,HN.out]
theorem Nv {A B:Option Addr} {n c nl cl:Nat} {m:List UInt8} {l:List Ak} {w:World} [HR w A (bs m)] [HR w B (cellsOf l)] (hl:m.length=n) (hn:n≤140737488351232) (hll:l.length=nl):
    Calls Tryz.prog 230 #[.slice A n c, .slice B nl cl] w fun e w'=>e= .returned (.tuple #[.agg (Aw (if nl=36 then Ii m l else Aq).l), .bool (decide (nl=36))])∧Ag Ab w w':=by
 have hd:=Js m;have hsz:(Df (Bf m)).size =36:=by rw[Gy,hd]
 have h1:=Lc (Bf m);by_cases h36:nl=36
 ·have hb:((nl:Int)!=36)=false:=by simp;omega
  rw[if_pos h36,decide_eq_true h36];have hge36:36≤nl:=by omega
  clear h36;go_enter Tryz.func230,Tryz.ntmps230;go_wp2_with (first|(refine BB 4 ?_;intro zo wzo _ _ _));refine(Ov (xs:=m) hl hn).mono ?_;rintro e w4 ⟨rfl,_⟩;go_wp2_with (first|(refine BB 6 ?_;intro zd wzd _ _ _)|(refine Bt ?_;intro ws _ _));go_loopw [7,8] (fun v i wr=>∃(k:Nat) (A':Option Addr) (c':Nat),k≤36∧i= .int .i64 (k:Int)∧v= .slice A' k c'∧Ag Ab w wr∧HB wr zo 23 (Aw Aq.l)∧HB wr zd 186 (Df (Bf m))∧Aj w A'∧As (An A') zo∧As (An A') zd∧HO wr 23 32 A' k c' (cellsOf (Hp (fun h i=>Ev i (Ej (Bf m) i) 3 h) l k))) (fun _ i _=>36 -(intOf i).toNat)
  case atStart=>exact⟨0,none,0,Nat.zero_le _,rfl,rfl,Aa,inferInstance,inferInstance,Aj.of_none _,inferInstance,inferInstance,⟨Cm.nil _ _ _⟩⟩
  case round=>
   obtain⟨k,A',c',hk,rfl,rfl,_,_,_,_,_,_,_⟩:=hrel;by_cases hlt:k<36
   ·have kb3:=LR (Ev k (Ej (Bf m) k) 3 (AG l k));have hkI:(k:Int)<36:=by omega
    have hkd:k<(Bf m).length :=by omega
    have hkl:k<l.length:=by omega
    have hkn:k<nl:=by omega
    have hsn:Hid (Hp (fun h i=>Ev i (Ej (Bf m) i) 3 h) l (k+1)=Hp (fun h i=>Ev i (Ej (Bf m) i) 3 h) l k++[Ev k (Ej (Bf m) k) 3 (AG l k)]):=Lib.hid (by rw[QK]);go_wp2_with fail;refine Ah ((An A')) (by kernel_rfl) (fun wd _ _=> ?_);refine YS 0 ?_;refine YS 1 ?_;refine YS 2 ?_;refine Vj 3 ?_;refine Vk 4 23 ?_;refine YS 5 ?_;refine YS 6 ?_;refine YS 7 ?_;refine YLI 8 3 ?_;refine Yg 9 fun K_ hK_=> ?_
    go_simp;refine(TR (AG l k) k (Ej (Bf m) k) 3 _).mono ?_;rintro e w6 ⟨rfl,_⟩;refine Yz hK_ ?_;clear hK_ K_;refine Yh 10 fun K_ hK_=> ?_
    (first|(refine WBs (kb3 _) ?_;intro zb wb _ _ _))
    refine Yn hK_ ?_;clear hK_ K_;refine Yh 11 fun K_ hK_=> ?_
    (first|(refine WBs (kb3 _) ?_;intro zb wb _ _ _)|(refine NO ?_;intro A' c' wa _ _ _ hcap)|(refine XF ?_;intro A' c' wa _ _ _ hcap))
    refine Yn hK_ ?_;clear hK_ K_;refine YS 12 ?_;refine Yd ?_;go_wp2_with fail;refine⟨⟨k+1,_,_,by omega,by go_num,rfl,Aa,inferInstance,inferInstance,inferInstance,inferInstance,inferInstance, ?_⟩,by simp[intOf];omega⟩;rw[hsn.out];exact inferInstance
   obtain rfl:k=36:=by omega
   go_wp2_with fail;refine(VR (l:=Hp (fun h i=>Ev i (Ej (Bf m) i) 3 h) l 36) (FS _ _ _) (by omega)).mono ?_;rintro e w7 ⟨rfl,_⟩;go_wp2_with (first|(refine Bt ?_;intro ws _ _));refine Lg (g:=zo) (b:=true) rfl rfl (n:=32) (Ak.size (Ii m l)) rfl ?_ rfl;exact⟨rfl,Aa⟩
 have hb:((nl:Int)!=36)=true:=by simp;omega
 have kb0: ∀w,(Instr.build 23 #[]).run Tryz.prog w= .ok (.agg (Aw Aq.l)) w:=fun _=>by kernel_rfl
 rw[if_neg h36,decide_eq_false h36];go_enter Tryz.func230,Tryz.ntmps230;go_wp2_with (first|(refine Ji (kb0 _) ?_)|(refine BB 4 ?_;intro zo wzo _ _ _)|(refine Bt ?_;intro ws _ _));refine Lg (g:=zo) (b:=false) rfl rfl (n:=32) (Ak.size Aq) rfl ?_ rfl;exact⟨rfl,Aa⟩
end Go.Proofs.YtjjhceeookpieaaGreat
end
