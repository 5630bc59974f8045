/- UhWuB, UhWxA, UhWxB, UhWzA, UhWuC, UhWzB, UhWvA, UhWvB, UhWyM, UhTkM, UhSnM, UhWzD, UhWzE -/
import Derived.Test.YtjjhceeookpieaaGreatUhZ
import Derived.Test.YtjjhceeookpieaaGreatUhWnA
import Derived.Test.YtjjhceeookpieaaGreatUhConv
import Derived.Test.YtjjhceeookpieaaGreatUhTy
import Derived.Test.YtjjhceeookpieaaGreatUhOcEl
import Derived.Test.YtjjhceeookpieaaGreatUhWzC
section
set_option maxRecDepth 100000
open Go Go.RowKit
namespace Go.Proofs.YtjjhceeookpieaaGreat
def Ah2 (u n:ByteArray) (h:Ak) (c k:Int):List Value:= .string u:: .string n::(bs h.l++[.int .i64 c, .int .i64 k])
theorem toL {s:ByteArray} {l:List UInt8} (hs:s.data.toList=l):s.toList=l:=by
 subst hs;exact AI s.data.toList
def Fw (l:List UInt8):Bool:=l.isEmpty||Bl l
theorem Nr (s:ByteArray) (l:List UInt8) (hs:s.data.toList=l) (w:World):
    Calls Tryz.prog 185 #[.string s] w fun e w'=>e= .returned (.bool (Fw l))∧Ag Ab w w':=by
 have hE:s.toList.isEmpty=l.isEmpty:=by rw[toL hs]
 unfold Fw;cases he:l.isEmpty
 case true=>
  rw[he] at hE;rw[show(true||Bl l)=true from rfl];go_enter Tryz.func185,Tryz.ntmps185;go_wp2_with fail;go_ret
  first
   |exact⟨rfl,Aa⟩
   |exact⟨by simp[hE],Aa⟩
 case false=>
  rw[he] at hE;rw[show(false||Bl l)=Bl l from rfl];go_enter Tryz.func185,Tryz.ntmps185;go_wp2_with fail;refine(Bs s l hs _).mono ?_;rintro e w5 ⟨rfl,_⟩;go_wp2_with fail;go_ret;exact⟨rfl,Aa⟩
def Amx (l m:List UInt8) (c k:Int):Bool:=Bl l&&Fw m&&Ca c&&Ca k
theorem Pn (f1 f2 f3 f4:FuncId) (c1 c2 c3 c4:Array Value) (w:World):(Instr.buildSlice 258 4 #[(0, .func (.func f1) #[] c1),(1, .func (.func f2) #[] c2),(2, .func (.func f3) #[] c3),(3, .func (.func f4) #[] c4)]).run Tryz.prog w= .ok (.slice (some ⟨w.heap.size,0,none⟩) 4 4) (w.alloc (.cells #[.func (.func f1) #[] c1, .func (.func f2) #[] c2, .func (.func f3) #[] c3, .func (.func f4) #[] c4] 197)):=by kernel_rfl
theorem SQ {z c:Nat} {f1 f2 f3 f4:FuncId} {c1 c2 c3 c4:Array Value} {T1 T2 T3 T4:Nat→Prop} {y1 y2 y3 y4:List UInt8} {w:World} {t:TypeId} [h:HB w z t #[.func (.func f1) #[] c1, .func (.func f2) #[] c2, .func (.func f3) #[] c3, .func (.func f4) #[] c4]]
    (h1:EV w T1 (.func (.func f1) #[] c1) y1) (h2:EV w T2 (.func (.func f2) #[] c2) y2) (h3:EV w T3 (.func (.func f3) #[] c3) y3) (h4:EV w T4 (.func (.func f4) #[] c4) y4):
    Calls Tryz.prog 107 #[.slice (some ⟨z,0,none⟩) 4 c] w fun e w'=>∃f caps T,e= .returned (.func (.func f) #[] caps)∧Ag Ab w w'∧EV w' T (.func (.func f) #[] caps) (y1++(y2++(y3++y4)))∧∀x,T x→w.heap.size≤x∨x=z∨T1 x∨T2 x∨T3 x∨T4 x:=by
 have hr:=h.rdL;refine(IN (A2:=some ⟨z,0,none⟩) (c:=c) (l:=[⟨_,T1,y1⟩,⟨_,T2,y2⟩,⟨_,T3,y3⟩,⟨_,T4,y4⟩]) hr rfl (show 4≤1000000000 by decide) ?_).mono ?_
 ·intro f hf;simp only[List.mem_cons,List.not_mem_nil,or_false] at hf;rcases hf with rfl|rfl|rfl|rfl
  ·exact h1
  ·exact h2
  ·exact h3
  exact h4
 rintro e w' ⟨f,caps,T,rfl,hs,hL,hT⟩;refine⟨f,caps,T,rfl,hs, ?_,fun x hx=> ?_⟩
 ·have e2:ER [⟨Value.func (.func f1) #[] c1,T1,y1⟩,⟨Value.func (.func f2) #[] c2,T2,y2⟩,⟨Value.func (.func f3) #[] c3,T3,y3⟩,⟨Value.func (.func f4) #[] c4,T4,y4⟩]=y1++(y2++(y3++y4)):=by simp[ER]
  rwa[e2] at hL
 rcases hT x hx with h|⟨_,ad,e,hk⟩|⟨f,hf,hk⟩
 ·exact .inl h
 ·injection e with e
  subst e;exact .inr (.inl hk.symm)
 simp only[List.mem_cons,List.not_mem_nil,or_false] at hf;rcases hf with rfl|rfl|rfl|rfl
 ·exact .inr (.inr (.inl hk))
 ·exact .inr (.inr (.inr (.inl hk)))
 ·exact .inr (.inr (.inr (.inr (.inl hk))))
 exact .inr (.inr (.inr (.inr (.inr hk))))
end Go.Proofs.YtjjhceeookpieaaGreat
end
section
set_option maxRecDepth 100000
set_option maxHeartbeats 1600000
open Go Go.RowKit
namespace Go.Proofs.YtjjhceeookpieaaGreat
section
variable {P:Program} {ops:Array Oper} {rest:List Oper} {a:Act} {w:World} {Q:Exit→Act→World→Prop} {dst:Option Tmp} {ty:TypeId} {pos:String} {after:Array Edge}
theorem XB {t:TypeId} {x:Operand} {v c:Int} {b:Bool} (hx:a.eval x= .int .u8 v) (hb:decide (v<c)=b) (h:wpList P ops Q rest (a.put dst (.bool b)) w):wpList P ops Q (⟨dst, .binOp .lss t x (.const (.int .u8 c)) t,ty,pos,after,none⟩::rest) a w:=by
 subst hb;refine Av (v:= .bool (decide (v<c))) rfl ?_ h;show((Go.binOp .lss t (a.eval x) (.int .u8 c))>>=fun v=>pure (Next.value v)).run P w=_;rw[hx];rfl
theorem XC {t:TypeId} {x:Operand} {v c:Int} {b:Bool} (hx:a.eval x= .int .u8 v) (hb:decide (c<v)=b) (h:wpList P ops Q rest (a.put dst (.bool b)) w):wpList P ops Q (⟨dst, .binOp .gtr t x (.const (.int .u8 c)) t,ty,pos,after,none⟩::rest) a w:=by
 subst hb;refine Av (v:= .bool (decide (c<v))) rfl ?_ h;show((Go.binOp .gtr t (a.eval x) (.int .u8 c))>>=fun v=>pure (Next.value v)).run P w=_;rw[hx];rfl
theorem SR {t:TypeId} {x:Operand} {v c:Int} {b:Bool} (hx:a.eval x= .int .i64 v) (hb:decide (v<c)=b) (h:wpList P ops Q rest (a.put dst (.bool b)) w):wpList P ops Q (⟨dst, .binOp .lss t x (.const (.int .i64 c)) t,ty,pos,after,none⟩::rest) a w:=by
 subst hb;refine Av (v:= .bool (decide (v<c))) rfl ?_ h;show((Go.binOp .lss t (a.eval x) (.int .i64 c))>>=fun v=>pure (Next.value v)).run P w=_;rw[hx];rfl
theorem XD {t:TypeId} {x:Operand} {v c:Int} {b:Bool} (hx:a.eval x= .int .i64 v) (hb:decide (c<v)=b) (h:wpList P ops Q rest (a.put dst (.bool b)) w):wpList P ops Q (⟨dst, .binOp .gtr t x (.const (.int .i64 c)) t,ty,pos,after,none⟩::rest) a w:=by
 subst hb;refine Av (v:= .bool (decide (c<v))) rfl ?_ h;show((Go.binOp .gtr t (a.eval x) (.int .i64 c))>>=fun v=>pure (Next.value v)).run P w=_;rw[hx];rfl
end
theorem AJ (s:ByteArray) (l:List UInt8) (hl:s.data.toList=l) (hmax:s.size≤9223372036854775807) (w:World):
    Calls Tryz.prog 232 #[.string s] w fun e w'=>e= .returned (.bool (Bl l))∧Ag Ab w w':=by
 have hsz:l.length=s.size:=by rw[←hl];exact Array.length_toList (xs:=s.data)
 obtain⟨R,hR⟩: ∃R,R=Bl l:=⟨_,rfl⟩;have HR:=Lib.hid hR;have HS:=Lib.hid hsz;rw[←hR];clear hR hsz;go_enter Tryz.func232,Tryz.ntmps232;go_wp2_with fail;go_loopw [3] (fun iv wr=>∃k:Nat,k≤s.size∧iv= .int .i64 (k:Int)∧Nw w wr∧Hid ((l.take k).all Gp=true)) (fun iv _=>s.size -(intOf iv).toNat)
 case atStart=>exact⟨0,Nat.zero_le _,rfl,inferInstance,Lib.hid rfl⟩
 case round=>
  obtain⟨k,hk,rfl,_,HB1⟩:=hrel;have st:Ag Ab w wr:=⟨(inferInstance:Nw w wr).out⟩;by_cases hlt:k<s.size
  ·have hltI:(k:Int)<s.size:=by omega
   have hkl:k<l.length:=by have:=HS.out;omega
   obtain⟨v,hv⟩: ∃v,(Eo l k).toNat =v:=⟨_,rfl⟩;have hg:Gp (Eo l k)=((decide (97≤v)&&decide (v≤122))||(decide (48≤v)&&decide (v≤57))||decide (v=45)):=by unfold Gp;rw[hv]
   have hcase:=Zz v hg;have hall:=UT l k hkl;have HV:=Lib.hid hv;clear hv hg;rcases hcase with⟨hg,hc⟩|⟨hg,hc⟩
   ·have HB2:Hid ((l.take (k+1)).all Gp=true):=Lib.hid (by rw[hall,HB1.out,hg];rfl);clear hg hall;rcases hc with⟨b1,b2⟩|⟨_,_,h⟩|⟨b1,b2,b3⟩|⟨b1,b2,b3⟩
    rotate_left 1
    ·exact h.elim
    all_goals
     go_wp2_with (first|((with_reducible apply(Ef (op:= .index _ _ _)));exact rfl)|(refine WGO ?_)|((with_reducible apply XB);exact rfl;(first|(exact decide_eq_true (by omega))|exact decide_eq_false (by omega)))|((with_reducible apply XC);exact rfl;(first|(exact decide_eq_true (by omega))|exact decide_eq_false (by omega)))|((with_reducible apply(LW hl HV.out));exact rfl;exact rfl;exact Tryz.underlying9;exact hkl));exact⟨⟨k+1,by omega,by go_num,inferInstance,HB2⟩,by simp[intOf];omega⟩
   have HF:Hid (R=false):=Lib.hid (by
     rw[HR.out,Bl,Acp l k hkl hg,Bool.and_false])
   obtain rfl:R=false:=HF.out;clear hg hall;rcases hc with⟨b1,b2,b3,b4,b5⟩|⟨b1,b2,b3,b4⟩|⟨b1,b2,b3⟩
   all_goals
    go_wp2_with (first|((with_reducible apply(Ef (op:= .index _ _ _)));exact rfl)|(refine WGO ?_)|((with_reducible apply XB);exact rfl;(first|(exact decide_eq_true (by omega))|exact decide_eq_false (by omega)))|((with_reducible apply XC);exact rfl;(first|(exact decide_eq_true (by omega))|exact decide_eq_false (by omega)))|((with_reducible apply(LW hl HV.out));exact rfl;exact rfl;exact Tryz.underlying9;exact hkl));go_ret;exact⟨rfl,st⟩
  obtain rfl:k=s.size:=by omega
  have hltI:(s.size:Int)≤s.size:=by omega
  have HNL:Hid (R=(decide (1≤s.size)&&decide (s.size≤12))):=Lib.hid (by
   have h1:=HB1.out;rw[List.take_of_length_le (by have:=HS.out;omega)] at h1;rw[HR.out,Bl,h1,HS.out,Bool.and_true])
  by_cases a1:1≤s.size
  ·by_cases a2:s.size≤12
   ·obtain rfl:R=true:=by rw[HNL.out];simp[a1,a2]
    have b1:1≤(s.size:Int):=by omega
    have b2:(s.size:Int)≤12:=by omega
    go_wp2_with fail;go_ret;exact⟨rfl,st⟩
   obtain rfl:R=false:=by rw[HNL.out];simp[a2]
   have b1:1≤(s.size:Int):=by omega
   have b2:12<(s.size:Int):=by omega
   go_wp2_with fail;go_ret
   first
    |exact⟨rfl,st⟩
    |exact⟨by simp;omega,st⟩
  obtain rfl:R=false:=by rw[HNL.out];simp[a1]
  have b1:(s.size:Int)<1:=by omega
  go_wp2_with fail;go_ret;exact⟨rfl,st⟩
theorem AX (n:Int) (w:World):Calls Tryz.prog 159 #[.int .i64 n] w fun e w'=>e= .returned (.bool (BE n))∧Ag Ab w w':=by
 by_cases h1:1≤n
 ·by_cases h2:n≤1073741824
  ·have e:BE n=true:=by simp[BE,h1,h2]
   rw[e];clear e;go_enter Tryz.func159,Tryz.ntmps159;go_wp2_with fail;go_ret;exact⟨rfl,Aa⟩
  have e:BE n=false:=by simp[BE,h2]
  rw[e];clear e;go_enter Tryz.func159,Tryz.ntmps159;go_wp2_with fail;go_ret;exact⟨rfl,Aa⟩
 have e:BE n=false:=by simp[BE,h1]
 rw[e];clear e;go_enter Tryz.func159,Tryz.ntmps159;go_wp2_with fail;go_ret;exact⟨rfl,Aa⟩
instance Akt:Bm Tryz.prog 253 3 1 8 (.int .i64 0):=⟨⟨Tryz.underlying253,by kernel_rfl,rfl,by decide⟩⟩
def GT (l:List Int):Bool:=l.all Ca
theorem UZ (l:List Int) (k:Nat) (h:k<l.length):GT (l.take (k+1))=(GT (l.take k)&&Ca (Ej l k)):=by
 unfold GT;rw[List.take_succ_eq_append_getElem h,List.all_append];simp[Ej,List.getD_eq_getElem?_getD,h]
theorem Ri (l:List Int) (k:Nat) (h:k<l.length) (hb:Ca (Ej l k)=false):GT l=false:=by
 unfold GT;rw[List.all_eq_false];refine⟨l[k],List.getElem_mem h, ?_⟩;have e:Ej l k=l[k]:=by simp[Ej,List.getD_eq_getElem?_getD,h]
 rw[e] at hb;simp[hb]
theorem Dv {A:Option Addr} {n c:Nat} {l:List Int} {w:World} [hr:HR w A (Ic l)] (hl:l.length=n) (hmax:n≤9223372036854775807):
    Calls Tryz.prog 160 #[.slice A n c] w fun e w'=>e= .returned (.bool (GT l))∧Ag Ab w w':=by
 obtain⟨R,hR⟩: ∃R,R=GT l:=⟨_,rfl⟩;have HR1:=Lib.hid hR;rw[←hR];clear hR;go_enter Tryz.func160,Tryz.ntmps160;go_wp2_with fail;go_loopw [3] (fun iv wr=>∃k:Nat,k≤n∧iv= .int .i64 (k:Int)∧Nw w wr∧HR wr A (Ic l)∧Hid (GT (l.take k)=true)) (fun iv _=>n -(intOf iv).toNat)
 case atStart=>exact⟨0,Nat.zero_le _,rfl,inferInstance,inferInstance,Lib.hid rfl⟩
 case round=>
  obtain⟨k,hk,rfl,_,_,HB1⟩:=hrel;have st:Ag Ab w wr:=⟨(inferInstance:Nw w wr).out⟩;by_cases hkn:k<n
  ·have hltI:(k:Int)<n:=by omega
   have hkl:k<l.length:=by omega
   obtain⟨v,hv⟩: ∃v,v=Ej l k:=⟨_,rfl⟩;have hall:=UZ l k hkl;have HV:=Lib.hid hv;by_cases h1:0≤v
   ·by_cases h2:v≤1073741824
    ·have HB2:Hid (GT (l.take (k+1))=true):=Lib.hid (by rw[hall,HB1.out,←hv];simp[Ca,h1,h2]);rw[hv] at h1 h2;clear hall hv;go_wp2_with (first|(refine WGO ?_)|((with_reducible apply SR);exact rfl;(first|(exact decide_eq_true (by omega))|exact decide_eq_false (by omega)))|((with_reducible apply XD);exact rfl;(first|(exact decide_eq_true (by omega))|exact decide_eq_false (by omega)))|(refine Ct ?_)|(refine WGI ?_)|((with_reducible apply KF);exact rfl;exact rfl;infer_instance;infer_instance;exact hl;exact hkn)|((with_reducible apply Md);exact rfl;infer_instance;infer_instance;exact hkl));exact⟨⟨k+1,by omega,by go_num,inferInstance,inferInstance,HB2⟩,by simp[intOf];omega⟩
    have HF:Hid (R=false):=Lib.hid (by rw[HR1.out,Ri l k hkl (by rw[←hv];simp[Ca,h2])]);obtain rfl:R=false:=HF.out;rw[hv] at h1 h2;clear hall hv;go_wp2_with (first|(refine WGO ?_)|((with_reducible apply SR);exact rfl;(first|(exact decide_eq_true (by omega))|exact decide_eq_false (by omega)))|((with_reducible apply XD);exact rfl;(first|(exact decide_eq_true (by omega))|exact decide_eq_false (by omega)))|(refine Ct ?_)|(refine WGI ?_)|((with_reducible apply KF);exact rfl;exact rfl;infer_instance;infer_instance;exact hl;exact hkn)|((with_reducible apply Md);exact rfl;infer_instance;infer_instance;exact hkl));go_ret;exact⟨rfl,st⟩
   have HF:Hid (R=false):=Lib.hid (by rw[HR1.out,Ri l k hkl (by rw[←hv];simp[Ca,h1])]);obtain rfl:R=false:=HF.out;rw[hv] at h1;clear hall hv;go_wp2_with (first|((with_reducible apply SR);exact rfl;(first|(exact decide_eq_true (by omega))|exact decide_eq_false (by omega)))|((with_reducible apply KF);exact rfl;exact rfl;infer_instance;infer_instance;exact hl;exact hkn)|((with_reducible apply Md);exact rfl;infer_instance;infer_instance;exact hkl));go_ret;exact⟨rfl,st⟩
  obtain rfl:k=n:=by omega
  have HF:Hid (R=true):=Lib.hid (by
   have h1:=HB1.out;rw[List.take_of_length_le (by omega)] at h1;rw[HR1.out,h1])
  obtain rfl:R=true:=HF.out;have hltI: ¬(k:Int)<k:=by omega
  go_wp2_with fail;go_ret;exact⟨rfl,st⟩
end Go.Proofs.YtjjhceeookpieaaGreat
end
section
set_option maxRecDepth 100000
set_option maxHeartbeats 800000
open Go Go.RowKit
namespace Go.Proofs.YtjjhceeookpieaaGreat
theorem HR.ints1 {w:World} {z:Nat} {t:TypeId} {a:Int} (h:HB w z t #[.int .i64 a]):HR w (some ⟨z,0,none⟩) (Ic [a]):=⟨h.rdL⟩
theorem FK (a:Int):GT [a]=Ca a:=by simp[GT]
theorem KD (v e0 s:Int) (h:Ak) (w:World):
    Calls Tryz.prog 202 #[.agg (BI v e0 s h).toArray] w fun e w'=>e= .returned (.bool (IP v e0 s))∧Ag Ab w w':=by
 have hlen:=Cr v e0 s h;have kb1:=AM e0;unfold IP;cases h1:BE v
 case false=>
  rw[show(false&&Ca e0&&BE s)=false by simp];go_enter Tryz.func202,Tryz.ntmps202;go_wp2_with (first|(refine Bv 1 ?_;intro zt wzt _ _ _)|(refine GU ?_));refine(AX v _).mono ?_;rw[h1];rintro e w5 ⟨rfl,_⟩;go_wp2_with (first|go_skip);go_ret;exact⟨rfl,Aa⟩
 case true=>
  cases h2:Ca e0
  case false=>
   rw[show(true&&false&&BE s)=false by simp];go_enter Tryz.func202,Tryz.ntmps202;go_wp2_with (first|(refine Bv 1 ?_;intro zt wzt _ _ _)|(refine GU ?_));refine(AX v _).mono ?_;rw[h1];rintro e w5 ⟨rfl,_⟩;go_wp2_with (first|(refine Ct ?_)|(refine WGB ?_)|(refine BM 9 (kb1 _) ?_;intro zb wb _ _ _)|(refine CG ?_)|(refine GU ?_));have hr2:HR wb (some ⟨zb,0,none⟩) (Ic [e0]):=HR.ints1 (inferInstance:HB wb zb 3 #[.int .i64 e0]);refine(Dv (l:=[e0]) (n:=1) (c:=1) rfl (by decide)).mono ?_;rw[FK,h2];rintro e w6 ⟨rfl,_⟩;go_wp2_with (first|go_skip);go_ret;exact⟨rfl,Aa⟩
  case true=>
   rw[show(true&&true&&BE s)=BE s by simp];go_enter Tryz.func202,Tryz.ntmps202;go_wp2_with (first|(refine Bv 1 ?_;intro zt wzt _ _ _)|(refine GU ?_));refine(AX v _).mono ?_;rw[h1];rintro e w5 ⟨rfl,_⟩;go_wp2_with (first|(refine Ct ?_)|(refine WGB ?_)|(refine BM 9 (kb1 _) ?_;intro zb wb _ _ _)|(refine CG ?_)|(refine GU ?_));have hr2:HR wb (some ⟨zb,0,none⟩) (Ic [e0]):=HR.ints1 (inferInstance:HB wb zb 3 #[.int .i64 e0]);refine(Dv (l:=[e0]) (n:=1) (c:=1) rfl (by decide)).mono ?_;rw[FK,h2];rintro e w6 ⟨rfl,_⟩;go_wp2_with (first|(refine Ct ?_)|(refine CG ?_)|(refine GU ?_));refine(AX s _).mono ?_;rintro e w7 ⟨rfl,_⟩;go_wp2_with fail;go_ret;exact⟨rfl,Aa⟩
end Go.Proofs.YtjjhceeookpieaaGreat
end
section
set_option maxRecDepth 100000
set_option maxHeartbeats 1600000
open Go Go.RowKit
namespace Go.Proofs.YtjjhceeookpieaaGreat
section
variable {P:Program} {ops:Array Oper} {a:Act} {w:World} {dst:Option Tmp} {ty:TypeId} {pos:String} {after:Array Edge} {gd:Option (Nat×Bool)}
theorem Pq {t e:TypeId} {x:Operand} {g k m:Nat} (hx:a.eval x= .pointer (some ⟨g,k,none⟩)) (hu:P.underlying t=some (.array m e)) (hs:(P.info? e).map (·.size)=some 1):
    (execOp a.eval ⟨dst, .slice t x none none none,ty,pos,after,gd⟩).run P w= .ok (.value (.slice (some ⟨g,k,none⟩) m m)) w:=by
 show((Instr.sliceAt t (a.eval x) none none none)>>=fun v=>pure (Next.value v)).run P w=_;rw[hx];cases hq:P.info? e with
 |none=>rw[hq] at hs;simp at hs
 |some i=>simp[Instr.sliceAt,run_underlying hu,Instr.sureAddr,Instr.sliceBounds,sizeOf,typeInfo,hq,Be]
end
theorem Vb (a b c d:Int) (w:World):(Instr.buildSlice 253 4 #[(0, .int .i64 a),(1, .int .i64 b),(2, .int .i64 c),(3, .int .i64 d)]).run Tryz.prog w= .ok (.slice (some ⟨w.heap.size,0,none⟩) 4 4) (w.alloc (.cells #[.int .i64 a, .int .i64 b, .int .i64 c, .int .i64 d] 3)):=by kernel_rfl
theorem MF {w0 w:World} {A:Option Addr} {n c:Nat} {xs:List UInt8} (h:Co w0 w A n c xs):HO w 5 1 A n c (bs xs):=⟨h.own⟩
theorem Acw {w:World} {z:Nat} {v e0 s:Int} {h:Ak} {t:TypeId} (hb:HB w z t (BI v e0 s h).toArray):HR w (some ⟨z,3,none⟩) (bs h.l):=⟨by
 have h1:=hb.rdL.drop 3;simpa[Addr.add,BI] using h1⟩
theorem Ma (v e0 s:Int) (h:Ak) (w:World):
    Calls Tryz.prog 144 #[.agg (BI v e0 s h).toArray] w (AR (IP v e0 s) (Ae [2,v,e0,s]++h.l) w):=by
 have hlen:=Cr v e0 s h;unfold AR;rcases hb:IP v e0 s with _|_
 ·go_enter Tryz.func144,Tryz.ntmps144;go_wp2_with (first|(refine Bv 1 ?_;intro zt wzt _ _ _)|(refine Cp ?_));refine(KD v e0 s h _).mono ?_;rw[hb];rintro e w5 ⟨rfl,_⟩;go_wp2_with fail
  go_ret2
  exact⟨Aa,rfl⟩
 have HE:Hid ((Ae [2,v,e0,s]).length ≤36):=Lib.hid (Az [2,v,e0,s]);go_enter Tryz.func144,Tryz.ntmps144;go_wp2_with (first|(refine Bv 1 ?_;intro zt wzt _ _ _)|(refine Cp ?_));refine(KD v e0 s h _).mono ?_;rw[hb];rintro e w5 ⟨rfl,_⟩;go_wp2_with fail;have hr5:HR w5 (some ⟨zt,3,none⟩) (bs h.l):=Acw (inferInstance:HB w5 zt 36 (BI v e0 s h).toArray);have n5:Nw w w5:=inferInstance;have kb4:=Vb 2 v e0 s;refine Ah (Ab) (by kernel_rfl) (fun wd _ _=> ?_);refine YS 0 ?_;refine WN 1 ?_;refine YS 2 ?_;refine WN 3 ?_;refine YS 4 ?_;refine WN 5 ?_;refine YS 8 ?_;refine' tk 9 _ rfl (by kernel_rfl) (by kernel_rfl) (by kernel_rfl) (fun _ _ _ h=>h) (yo (by rfl) fun w' _=> ?_) inferInstance ?_;rotate_left
 ·((apply(Pq (m:=32) (e:=5)));exact rfl;exact Tryz.underlying23;(kernel_rfl))
 try simp only[Act.put,sA,sB,sC]
 refine Yh 6 fun K_ hK_=> ?_
 (first|(refine BM 13 (kb4 _) ?_;intro zi wb _ _ _))
 refine Yn hK_ ?_;clear hK_ K_;refine Yg 7 fun K_ hK_=> ?_
 go_simp;refine(FJ (some ⟨zi,0,none⟩) 4 4 [2,v,e0,s] _ (HB.rdL (z:=zi) (t:=3) (cs:=#[.int .i64 2, .int .i64 v, .int .i64 e0, .int .i64 s]) inferInstance) rfl (show 4≤1000000000 by decide)).mono ?_;rintro e w6 ⟨A6,n6,c6,rfl,hF⟩;have st6:Ag Ab _ w6:=⟨hF.out.chg⟩;have hA6:Aj w A6:=⟨fun ad e=>Nat.le_trans (Nat.le_trans n5.out.size (Aa (w0:=w5)).chg.size) (hF.out.new ad e)⟩;have hA6d:Aj wd A6:=⟨fun ad e=>Nat.le_trans (Aa (w0:=wd)).chg.size (hF.out.new ad e)⟩;have ho6:HO w6 5 1 A6 n6 c6 (bs (Ae [2,v,e0,s])):=MF hF.out;have hn6:n6≤36:=by
  have h1:=hF.out.len;have:=HE.out;omega
 have HN:Hid (n6=(Ae [2,v,e0,s]).length):=Lib.hid hF.out.len;clear hF;refine Yz hK_ ?_;clear hK_ K_;refine Yh 10 fun K_ hK_=> ?_
 (first|(refine BM 13 (kb4 _) ?_;intro zi wb _ _ _)|(refine NO ?_;intro A' c' wa _ _ _ hcap)|(refine XF ?_;intro A' c' wa _ _ _ hcap)|(refine WAR Ak ?_;intro A' c' wa _ _ _ hcap))
 refine Yn hK_ ?_;clear hK_ K_;refine YS 11 ?_;refine YS 12 ?_;refine Yd ?_;go_wp2_with fail
 go_ret2
 refine⟨Aa,A',n6+32,c',rfl, ?_,inferInstance,Aj.monoS (inferInstance:Aj wd A')⟩;have h1:=HN.out;simp[h1]
end Go.Proofs.YtjjhceeookpieaaGreat
end
section
open Go Go.RowKit
namespace Go.Proofs.YtjjhceeookpieaaGreat
theorem CE {l:List UInt8} (h:Bl l=true):l.length≤12:=by
 unfold Bl at h;simp only[Bool.and_eq_true,decide_eq_true_eq] at h;exact h.1.2
theorem GS {l:List UInt8} (h:Fw l=true):l.length≤12:=by
 unfold Fw at h;rw[Bool.or_eq_true] at h;rcases h with h|h
 ·rw[List.isEmpty_iff.1 h];decide
 exact CE h
end Go.Proofs.YtjjhceeookpieaaGreat
end
section
set_option maxRecDepth 100000
open Go Go.RowKit
namespace Go.Proofs.YtjjhceeookpieaaGreat
theorem GG (l:List UInt8) (h:l.length≤1000000000):(Ap l).length ≤l.length+9:=by
 have h1:=Az [(l.length:Int)];rw[Bk] at h1;have h2:CB (l.length:Int)=l.length:=by unfold CB;omega
 rw[h2] at h1;unfold Ap;rw[List.length_append];simp at h1;omega
instance (priority:=600) KE.grewW (w0 w:World) (A A':Option Addr) (T:Nat→Prop) [g:Mc w A A'] [s:KE w0 (An A) T] [n:Ay w0 w]:KE w0 (An A') T:=⟨fun x hx ⟨ad,e,hk⟩=>by
 rcases g.out with h1|h1
 ·exact s.out x hx ⟨ad,by rw[←h1];exact e,hk⟩
 have h2:=n.out;rw[h1] at e;injection e with e
 subst e;have h3:w.heap.size=x:=hk;omega⟩
theorem EC (s:ByteArray) (l:List UInt8) (hl:s.data.toList=l) (hx:l.length≤1000000000) (w:World):
    Calls Tryz.prog 206 #[.string s] w fun e w'=>∃A n c,e= .returned (.slice A n c)∧Hid (Co w w' A n c (Ap l)):=by
 go_enter Tryz.func206,Tryz.ntmps206;go_wp2_with ((with_reducible apply(UX (l:=l)));exact rfl;exact hl;exact Tryz.underlying9;exact Tryz.underlying55;exact Tryz.underlying5;intro cs wz _ _);refine(Om (some ⟨w.heap.size,0,none⟩) l.length cs l wz (inferInstance:HR wz (some ⟨w.heap.size,0,none⟩) (bs l)).out rfl hx).mono ?_;rintro e w5 ⟨A5,n5,c5,rfl,hF⟩;have HF:Hid (Co w w5 A5 n5 c5 (Ap l)):=Lib.hid ⟨hF.out.own,hF.out.len,(Aa (w0:=w) (w:=wz)).chg.trans hF.out.chg (fun _ _ h=>h),fun ad e=>Nat.le_trans (Aa (w0:=w) (w:=wz)).chg.size (hF.out.new ad e)⟩;clear hF;go_wp2_with fail;go_ret;exact⟨A5,n5,c5,rfl,HF⟩
end Go.Proofs.YtjjhceeookpieaaGreat
end
section
open Go Go.RowKit
namespace Go.Proofs.YtjjhceeookpieaaGreat
theorem RS.row_le (s:RS):s.row.2.b.length≤s.b.length:=by
 unfold RS.row;exact Nat.le_trans (RS.raw_l _ _) (RS.num_le s)
def rU (s:RS):List UInt8:=s.row.1
def rN (s:RS):List UInt8:=s.row.2.row.1
def rS2 (s:RS):RS:=s.row.2.row.2
def rH (s:RS):Ak:=(rS2 s).hsh
def rS3 (s:RS):RS:=((rS2 s).raw 32).2
def rC (s:RS):Nat:=(rS3 s).num.1
def rK (s:RS):Nat:=((rS3 s).at 1).num.1
def rR (s:RS):RS:=(rS3 s).at 2
theorem Fx {a b:List UInt8} (h:a.length≤b.length) (ha:a≠[]):b≠[]:=fun hb=>ha (List.eq_nil_of_length_eq_zero (by rw[hb] at h;simpa using h))
end Go.Proofs.YtjjhceeookpieaaGreat
end
section
open Go Go.RowKit
namespace Go.Proofs.YtjjhceeookpieaaGreat
def rOk (b:List UInt8):Bool:=Cv (rR (AO 5 b))&&Amx (rU (AO 5 b)) (rN (AO 5 b)) (rC (AO 5 b)) (rK (AO 5 b))
def Amz (b:List UInt8):Array Value:=(Ah2 (Al (rU (AO 5 b))) (Al (rN (AO 5 b))) (rH (AO 5 b)) (rC (AO 5 b)) (rK (AO 5 b))).toArray
def Aob (b:List UInt8) (w:World):Ending→World→Prop:=fun e w'=>Ag Ab w w'∧e= .returned (if rOk b then .tuple #[.agg (Amz b), .int .i64 0] else .tuple #[.agg (Ah2 ⟨#[]⟩ ⟨#[]⟩ Aq 0 0).toArray, .int .i64 2])
end Go.Proofs.YtjjhceeookpieaaGreat
end
section
open Go Go.RowKit
namespace Go.Proofs.YtjjhceeookpieaaGreat
theorem ofNat_toNat (c:UInt8) (n:Nat) (h:n=c.toNat):UInt8.ofNat n=c:=by subst h;exact UInt8.ofNat_toNat
theorem Po: ∀(b:List UInt8) (i acc N:Nat) (r:List UInt8),DG i acc b=some (N,r)→∃n,N=acc+n*128^i∧b=enc n++r∧(0<i→0<n)∧N≤4611686018427387904
 |[],i,acc,N,r,h=>by simp[DG] at h
 |c::b,i,acc,N,r,h=>by
  have hc:=c.toNat_lt;rw[DG] at h;by_cases h9:9≤i
  ·rw[if_pos h9] at h;cases h
  rw[if_neg h9] at h;by_cases h1:128≤c.toNat
  ·rw[if_pos h1] at h;obtain⟨n,e1,e2,e3,e4⟩:=Po b (i+1) _ N r h;have hn:0<n:=e3 (by omega);refine⟨c.toNat%128+128*n, ?_, ?_,fun _=>by omega,e4⟩
   ·rw[e1,Nat.add_mul,Nat.pow_succ,Nat.add_assoc]
    congr 2
    rw[Nat.mul_comm 128 n,Nat.mul_assoc,Nat.mul_comm 128]
   have hl: ¬(c.toNat%128+128*n)<128:=by omega
   rw[GB hl,show(c.toNat%128+128*n)%128+128=c.toNat by omega,show(c.toNat%128+128*n)/128=n by omega,ofNat_toNat c _ rfl,e2];rfl
  rw[if_neg h1] at h;by_cases h2:4611686018427387904<acc+c.toNat%128*128^i∨(c.toNat=0∧0<i)
  ·rw[if_pos h2] at h;cases h
  rw[if_neg h2] at h;injection h with h
  injection h with ha hb
  subst hb;have hm:c.toNat%128=c.toNat:=by omega
  rw[hm] at ha h2;refine⟨c.toNat,ha.symm, ?_,fun hi=> ?_,by omega⟩
  ·rw[Fa (by omega),ofNat_toNat c _ rfl];rfl
  rcases Nat.eq_zero_or_pos c.toNat with h0|h0
  ·exact absurd (.inr ⟨h0,hi⟩) h2
  exact h0
theorem Cs {s:RS} (h:s.num.2.e=false):s.e=false∧s.b=enc s.num.1++s.num.2.b∧s.num.1≤4611686018427387904:=by
 unfold RS.num at*;cases he:s.e
 case true=>
  rw[he,if_pos rfl] at h;rw[he] at h;cases h
 case false=>
  rw[he,if_neg (by decide)] at h;rw[if_neg (by decide)];cases hp:DG 0 0 s.b with
  |none=>
   rw[hp] at h;cases h
  |some x=>
   obtain⟨N,r⟩:=x;obtain⟨n,e1,e2,_,e4⟩:=Po s.b 0 0 N r hp;have hN:N=n:=by simpa using e1
   refine⟨rfl, ?_,e4⟩;show s.b=enc N++r;rw[hN];exact e2
theorem Va {s:RS} {i:Int} (h:(s.raw i).2.e =false):s.e=false∧0≤i∧s.b=(s.raw i).1++(s.raw i).2.b ∧((s.raw i).1.length :Int)=i:=by
 unfold RS.raw at*;by_cases hc:s.e∨i<0∨(s.b.length:Int)<i
 ·rw[if_pos hc] at h;cases h
 rw[if_neg hc];have h1:s.e=false:=by
  cases he:s.e
  ·rfl
  exact absurd (.inl he) hc
 have h2:0≤i:=Int.not_lt.1 (fun h=>hc (.inr (.inl h)));have h3:i≤(s.b.length:Int):=Int.not_lt.1 (fun h=>hc (.inr (.inr h)));refine⟨h1,h2,(List.take_append_drop _ _).symm, ?_⟩;show((s.b.take i.toNat).length :Int)=i;rw[List.length_take];omega
theorem LZ {s:RS} (h:(s.raw 32).2.e =false):s.e=false∧s.b=s.hsh.l++(s.raw 32).2.b :=by
 obtain⟨h1,_,h3,h4⟩:=Va h;refine⟨h1, ?_⟩;rw[RS.hsh,dif_pos (by omega)];exact h3
theorem FZ {s:RS} (h:s.row.2.e=false):s.e=false∧s.b=Ap s.row.1++s.row.2.b:=by
 unfold RS.row at*;obtain⟨h1,_,h3,h4⟩:=Va h;obtain⟨h5,h6,_⟩:=Cs h1;refine⟨h5, ?_⟩;have hl:(s.num.2.raw (s.num.1:Int)).1.length =s.num.1:=by omega
 rw[Ap,hl,List.append_assoc,←h3];exact h6
theorem Jg {n:Nat} (h:n≤4611686018427387904):Ae [(n:Int)]=enc n:=by rw[Bk,KK n h]
theorem Kc {k:Nat} {b:List UInt8} (h:(AO k b).e =false):b=enc k++(AO k b).b :=by
 unfold AO at*;by_cases hk:(⟨b,false⟩:RS).num.1 =k
 ·rw[if_pos hk] at h⊢;have h1:=(Cs h).2.1;rw[hk] at h1;exact h1
 rw[if_neg hk] at h;cases h
theorem DZ {s:RS} (h:Cv s=true):s.e=false∧s.b=[]:=by
 unfold Cv at h;rw[Bool.and_eq_true] at h;exact⟨by simpa using h.1,of_decide_eq_true h.2⟩
theorem Cw (a b:List Int):Ae (a++b)=Ae a++Ae b:=by simp[Ae]
def IQ (v e s:Int) (h:Ak):List UInt8:=Ae [2]++(Ae [v,e,s]++h.l)
theorem Acv {b:List UInt8} (h:UW b=true):b=IQ (tV (AO 2 b)) (tE (AO 2 b)) (tS (AO 2 b)) (tH (AO 2 b)):=by
 unfold UW at h;rw[Bool.and_eq_true] at h;obtain⟨h1,h2⟩:=DZ h.1;have hk:b=enc 2++(AO 2 b).b →_:=fun h=>h
 generalize hS:AO 2 b=S at*;obtain⟨a1,a2⟩:=LZ (s:=S.at 3) h1;obtain⟨b1,b2,b3⟩:=Cs (s:=S.at 2) a1;obtain⟨c1,c2,c3⟩:=Cs (s:=S.at 1) b1;obtain⟨d1,d2,d3⟩:=Cs (s:=S) c1;have hb:=Kc (k:=2) (b:=b) (by rw[hS];exact d1);rw[hS] at hb;have r0:((S.at 3).raw 32).2.b =[]:=h2;have g1:tV S≤4611686018427387904:=d3;have g2:tE S≤4611686018427387904:=c3;have g3:tS S≤4611686018427387904:=b3;rw[r0,List.append_nil] at a2;have e3:Ae [(tV S:Int),tE S,tS S]=enc (tV S)++(enc (tE S)++enc (tS S)):=by
  rw[show[(tV S:Int),tE S,tS S]=[(tV S:Int)]++([(tE S:Int)]++[(tS S:Int)]) from rfl,Cw,Cw,Jg g1,Jg g2,Jg g3]
 rw[IQ,e3,show Ae [2]=enc 2 from Jg (n:=2) (by decide),hb,List.append_assoc,List.append_assoc]
 congr 1
 rw[d2]
 congr 1
 show(S.at 1).b =_;rw[c2]
 congr 1
 show(S.at 2).b =_;rw[b2]
 congr 1
def Aoc (l m:List UInt8) (h:Ak) (c k:Int):List UInt8:=Ae [5]++(Ap l++(Ap m++(h.l++Ae [c,k])))
end Go.Proofs.YtjjhceeookpieaaGreat
end
section
open Go Go.RowKit
namespace Go.Proofs.YtjjhceeookpieaaGreat
section
variable {α:Type} (tk:RS→α×RS)
def Hi (s:RS):Nat→RS
 |0=>s
 |k+1=>(tk (Hi s k)).2
def LQ (s:RS):Nat→List α
 |0=>[]
 |k+1=>LQ s k++[(tk (Hi tk s k)).1]
theorem Kb (s:RS): ∀k,(LQ tk s k).length =k
 |0=>rfl
 |k+1=>by rw[LQ,List.length_append,Kb s k];rfl
def GW (most:Nat) (s:RS):List α:=if most<s.num.1 then[] else LQ tk s.num.2 s.num.1
def Fs (most:Nat) (s:RS):RS:=if most<s.num.1 then RS.bad else Hi tk s.num.2 s.num.1
def MC (most:Nat) (s:RS) (l:List α) (s':RS):Prop:=∃j,j≤most+1∧j≤s.num.1∧(j=s.num.1∨j=most+1∨(Hi tk s.num.2 j).e =true)∧l=LQ tk s.num.2 j∧s'=Hi tk s.num.2 j
structure FB (enc:α→List UInt8):Prop where
 le: ∀s,(tk s).2.b.length ≤s.b.length
 back: ∀s,(tk s).2.e =false→s.e=false∧s.b=enc (tk s).1++(tk s).2.b
end
section
variable {α:Type} {tk:RS→α×RS} {enc:α→List UInt8}
theorem FB.tkS_le (h:FB tk enc) (s:RS): ∀k,(Hi tk s k).b.length ≤s.b.length
 |0=>Nat.le_refl _
 |k+1=>Nat.le_trans (h.le _) (FB.tkS_le h s k)
theorem FB.tkS_back (h:FB tk enc) (s:RS): ∀k,(Hi tk s k).e =false→s.e=false∧s.b=(LQ tk s k).flatMap enc++(Hi tk s k).b
 |0,he=>⟨he,rfl⟩
 |k+1,he=>by
  obtain⟨h1,h2⟩:=h.back (Hi tk s k) he;obtain⟨h3,h4⟩:=FB.tkS_back h s k h1;refine⟨h3, ?_⟩;rw[LQ,List.flatMap_append,List.append_assoc];show s.b=_++((enc (tk (Hi tk s k)).1++[])++(tk (Hi tk s k)).2.b);rw[List.append_nil,←h2];exact h4
theorem FB.tkS_mono (h:FB tk enc) (s:RS) (j:Nat): ∀k,(Hi tk s k).e =false→j≤k→(Hi tk s j).e =false
 |0,he,hj=>by
  obtain rfl:j=0:=by omega
  exact he
 |k+1,he,hj=>by
  by_cases e:j=k+1
  ·subst e;exact he
  exact FB.tkS_mono h s j k (h.back (Hi tk s k) he).1 (by omega)
theorem MC.le (h:FB tk enc) {most:Nat} {s s':RS} {l:List α} (g:MC tk most s l s'):s'.b.length≤s.b.length:=by
 obtain⟨j,_,_,_,_,rfl⟩:=g;exact Nat.le_trans (h.tkS_le _ _) (RS.num_le s)
theorem MC.same {most:Nat} {s s':RS} {l:List α} (g:MC tk most s l s') (he:s'.e=false) (hl:l.length≤most):l=GW tk most s∧s'=Fs tk most s:=by
 obtain⟨j,h5,hn,hj,rfl,rfl⟩:=g;rw[Kb] at hl;have e:j=s.num.1:=by
  rcases hj with h|h|h
  ·exact h
  ·omega
  rw[he] at h;cases h
 have h4: ¬most<s.num.1:=by omega
 rw[GW,Fs,if_neg h4,if_neg h4,←e];exact⟨rfl,rfl⟩
theorem MC.prog (h:FB tk enc) {most:Nat} {s s':RS} {l:List α} (g:MC tk most s l s') (he:(Fs tk most s).e =false):l=GW tk most s∧s'=Fs tk most s:=by
 obtain⟨j,h5,hn,hj,rfl,rfl⟩:=g;have h4: ¬most<s.num.1:=fun h4=>by
  rw[Fs,if_pos h4] at he;cases he
 rw[Fs,if_neg h4] at he;have e:j=s.num.1:=by
  rcases hj with h'|h'|h'
  ·exact h'
  ·omega
  rw[h.tkS_mono _ _ _ he hn] at h';cases h'
 rw[GW,Fs,if_neg h4,if_neg h4,←e];exact⟨rfl,rfl⟩
theorem FB.lst_back (h:FB tk enc) {most:Nat} {s:RS} (he:(Fs tk most s).e =false):s.e=false∧s.b=Ae [((GW tk most s).length :Int)]++((GW tk most s).flatMap enc++(Fs tk most s).b)∧(GW tk most s).length ≤most:=by
 have h4: ¬most<s.num.1:=fun h4=>by
  rw[Fs,if_pos h4] at he;cases he
 have e1:Fs tk most s=Hi tk s.num.2 s.num.1:=by rw[Fs,if_neg h4]
 have e2:GW tk most s=LQ tk s.num.2 s.num.1:=by rw[GW,if_neg h4]
 rw[e1] at he;obtain⟨b1,b2⟩:=h.tkS_back s.num.2 s.num.1 he;obtain⟨c1,c2,c3⟩:=Cs (s:=s) b1;refine⟨c1, ?_,by rw[e2,Kb];omega⟩;rw[e1,e2,Kb,Jg c3,←b2];exact c2
end
end Go.Proofs.YtjjhceeookpieaaGreat
end
section
open Go Go.RowKit
namespace Go.Proofs.YtjjhceeookpieaaGreat
structure AE where
 l:List UInt8
 v:Int
instance Ak7:Af AE:=⟨2,fun p=>[.string (Al p.l), .int .i64 p.v],fun _=>rfl,fun p u hu=>by
 simp only[List.mem_cons,List.not_mem_nil,or_false] at hu;rcases hu with rfl|rfl<;>rfl,⟨[],0⟩⟩
def Cx (s:RS):AE×RS:=(⟨s.row.1,(s.row.2.num.1:Nat)⟩,s.row.2.num.2)
def Kg (p:AE):List UInt8:=Ap p.l++Ae [p.v]
theorem JE:FB Cx Kg:=⟨fun s=>Nat.le_trans (RS.num_le _) (RS.row_le s),fun s h=>by
 obtain⟨a1,a2,a3⟩:=Cs (s:=s.row.2) h;obtain⟨b1,b2⟩:=FZ (s:=s) a1;refine⟨b1, ?_⟩;show s.b=(Ap s.row.1++Ae [(s.row.2.num.1:Int)])++s.row.2.num.2.b;rw[Jg a3,List.append_assoc,←a2];exact b2⟩
def Cd (p:AE):Bool:=Bl p.l&&BE p.v
def Nj (a b:AE):Bool:=Op.bytesLess a.l b.l
def GM (P:List AE):Nat→Bool
 |0=>true
 |k+1=>GM P k&&(decide (k=0)||Nj (gt P (k -1)) (gt P k))
theorem Uv (P:List AE) (k:Nat) (h:GM P k=false): ∀n,k≤n→GM P n=false
 |0,hn=>by
  obtain rfl:k=0:=by omega
  exact h
 |n+1,hn=>by
  by_cases e:k=n+1
  ·subst e;exact h
  rw[GM,Uv P k h n (by omega),Bool.false_and]
def BO (v e:Int) (P:List AE):Bool:=BE v&&Ca e&&decide (P.length≤16)&&P.all Cd&&GM P P.length
def EJ (P:List AE):List UInt8:=P.flatMap Kg
def CY (v e:Int) (P:List AE):List UInt8:=Ae [3]++(Ae [v,e]++(Ae [(P.length:Int)]++EJ P))
theorem Abz (v e:Int) (P:List AE):CY v e P=Ae [3,v,e,(P.length:Int)]++EJ P:=by
 rw[CY,←List.append_assoc (Ae [v,e]),←Cw,←List.append_assoc,←Cw];rfl
def Qc (b:List UInt8):Nat:=(AO 3 b).num.1
def Qd (b:List UInt8):Nat:=((AO 3 b).at 1).num.1
def ZH (b:List UInt8):RS:=(AO 3 b).at 2
def KY (b:List UInt8):List AE:=GW Cx 16 (ZH b)
def snR (b:List UInt8):RS:=Fs Cx 16 (ZH b)
def Gf (b:List UInt8):Bool:=Cv (snR b)&&BO (Qc b) (Qd b) (KY b)
theorem Aeu {b:List UInt8} (h:Gf b=true):b=CY (Qc b) (Qd b) (KY b):=by
 unfold Gf at h;rw[Bool.and_eq_true] at h;obtain⟨h1,h2⟩:=DZ h.1;obtain⟨a1,a2,_⟩:=JE.lst_back (s:=ZH b) h1;have h3:(Fs Cx 16 (ZH b)).b =[]:=h2;rw[h3,List.append_nil] at a2;unfold Qc Qd;have hs:ZH b=(AO 3 b).at 2:=rfl;have hp:KY b=GW Cx 16 (ZH b):=rfl;rw[←hp] at a2;generalize KY b=P at*;rw[hs] at a1 a2;generalize hS:AO 3 b=S at*;obtain⟨c1,c2,c3⟩:=Cs (s:=S.at 1) a1;obtain⟨d1,d2,d3⟩:=Cs (s:=S) c1;have hb:=Kc (k:=3) (b:=b) (by rw[hS];exact d1);rw[hS] at hb;have e3:Ae [(S.num.1:Int),((S.at 1).num.1 :Int)]=enc S.num.1++enc (S.at 1).num.1 :=by
  rw[show[(S.num.1:Int),((S.at 1).num.1 :Int)]=[(S.num.1:Int)]++[((S.at 1).num.1 :Int)] from rfl,Cw,Jg d3,Jg c3]
 rw[CY,e3,show Ae [3]=enc 3 from Jg (n:=3) (by decide),hb,List.append_assoc]
 congr 1
 rw[d2]
 congr 1
 show(S.at 1).b =_;rw[c2]
 congr 1
theorem Agm {b:List UInt8} {P:List AE} {s':RS} (h:MC Cx 16 (ZH b) P s'):(Cv s'&&BO (Qc b) (Qd b) P&&decide (b=CY (Qc b) (Qd b) P))=Gf b∧(Gf b=true→P=KY b):=by
 by_cases hk:Gf b=true
 ·have h0:=hk;unfold Gf at h0;rw[Bool.and_eq_true] at h0;obtain⟨rfl,rfl⟩:=h.prog JE (DZ h0.1).1;refine⟨?_,fun _=>rfl⟩;have e1:(Cv (Fs Cx 16 (ZH b))&&BO (Qc b) (Qd b) (GW Cx 16 (ZH b)))=true:=by rw[Bool.and_eq_true];exact h0
  rw[e1,hk];exact decide_eq_true (Aeu hk)
 refine⟨?_,fun h=>absurd h hk⟩;rw[Bool.not_eq_true] at hk;rw[hk,←Bool.not_eq_true];intro h1;rw[Bool.and_eq_true,Bool.and_eq_true] at h1;have hlen:P.length≤16:=by
  have h2:=h1.1.2;unfold BO at h2;simp only[Bool.and_eq_true,decide_eq_true_eq] at h2;exact h2.1.1.2
 obtain⟨rfl,rfl⟩:=h.same (DZ h1.1.1).1 hlen;unfold Gf at hk;have e1:(Cv (snR b)&&BO (Qc b) (Qd b) (KY b))=true:=by rw[Bool.and_eq_true];exact h1.1
 rw[e1] at hk;cases hk
end Go.Proofs.YtjjhceeookpieaaGreat
end
section
set_option maxRecDepth 100000
set_option maxHeartbeats 3200000
open Go Go.RowKit
namespace Go.Proofs.YtjjhceeookpieaaGreat
theorem HB.row_eq {w:World} {g:Nat} {t:TypeId} {cs ds:Array Value} (h:HB w g t cs) (e:cs=ds):HB w g t ds:=e▸h
theorem Nw.hr {w w':World} (n:Nw w w') {A:Option Addr} {vs:List Value} (h:Rd w A vs):HR w' A vs:=HR.step Ab w w' A _ (h:=⟨h⟩) (s:=⟨n.out⟩)
theorem Mb {A:Option Addr} {n c:Nat} {b:List UInt8} {w:World} [hr:HR w A (bs b)] (hl:b.length=n) (hcap:n≤c) (hn:n≤140737488351232):
    Calls Tryz.prog 76 #[.slice A n c] w (Acs b w):=by
 obtain⟨S,hS⟩: ∃S,S=AO 2 b:=⟨_,rfl⟩;obtain⟨W,hW⟩: ∃W,W=Cv (tR S):=⟨_,rfl⟩;obtain⟨I,hI⟩: ∃I,I=IP (tV S) (tE S) (tS S):=⟨_,rfl⟩;have hSl:S.b.length≤140737488351232:=by
  have:=Ir 2 b;rw[←hS] at this;omega
 have hSb:S.b≠[]→b≠[]:=fun h h0=>by
  have:=Ir 2 b;rw[←hS,h0] at this;exact h (List.eq_nil_of_length_eq_zero (by simpa using this))
 have hok:UW b=(W&&I):=by rw[UW,←hS,hW,hI]
 have hD:ZA b=(BI (tV S) (tE S) (tS S) (tH S)).toArray :=by rw[ZA,←hS]
 have hback:(W&&I)=true→b=Ae [2,(tV S:Int),(tE S:Int),(tS S:Int)]++(tH S).l :=fun h=>by
  have h1:=Acv (b:=b) (by rw[hok];exact h);rw[←hS] at h1;simpa[Ae,IQ] using h1
 obtain⟨V,hV⟩: ∃V,V=tV S:=⟨_,rfl⟩;obtain⟨E,hE⟩: ∃E,E=tE S:=⟨_,rfl⟩;obtain⟨N,hN⟩: ∃N,N=tS S:=⟨_,rfl⟩;obtain⟨H,hH⟩: ∃H,H=tH S:=⟨_,rfl⟩;rw[←hV,←hE,←hN] at hI;rw[←hV,←hE,←hN,←hH] at hD hback;have HBK:=Lib.hid hback;have HRR:=Lib.hid hr.out;have HS:=Lib.hid hS;have HW:=Lib.hid hW;have HI:=Lib.hid hI;have HV:Hid (S.num.1=V):=Lib.hid hV.symm;have HE:Hid ((S.at 1).num.1 =E):=Lib.hid hE.symm;have HN:Hid ((S.at 2).num.1 =N):=Lib.hid hN.symm;have HH:Hid ((S.at 3).hsh =H):=Lib.hid hH.symm;have HLE:=Lib.hid hl;have kb0: ∀w,(Instr.build 36 #[]).run Tryz.prog w= .ok (.agg (BI 0 0 0 Aq).toArray) w:=fun _=>by kernel_rfl
 unfold Acs;rw[hok,hD];clear hS hW hI hV hE hN hH hok hD hback;go_enter Tryz.func76,Tryz.ntmps76;go_wp2_with (first|(refine BB 2 ?_;intro zo wzo _ _ _));have hro:HR wzo A (bs b):=⟨HRR.out.later (Aa (w0:=w) (w:=wzo)).chg⟩;refine(FL (kind:=2) (b:=b) HLE.out hcap hn).mono ?_;rintro e w5 ⟨zr,d,rfl,_,hzr,hltr,h5,hdw⟩;rw[←HS.out] at h5;have hzw:w.heap.size≤zr:=Nat.le_trans (inferInstance:Ay w wzo).out hzr;have ag:Cn w (only zr):=⟨fun k h=>by have h':k=zr:=h;omega⟩;have hzol:=(inferInstance:HB wzo zo 36 (BI 0 0 0 Aq).toArray).out.lt;have ozr:As (only zr) zo:=⟨fun e=>by have e':zo=zr:=e;omega⟩;have hd5:S.b≠[]→d<w5.heap.size:=fun h=>h5.out.dlt h
 have H5:=Lib.hid h5;clear h5;go_wp2_with (first|(refine BB 5 ?_;intro zt wzt _ _ _));have hzt:w5.heap.size≤zt:=(Aj.monoS (w0:=w5) (Aj.of_born (z:=zt) 0)).out ⟨zt,0,none⟩ rfl;have at_:Cn w (only zt):=⟨fun k h=>by have h':k=zt:=h;have:=(inferInstance:Ay w w5).out;omega⟩;have otr:As (only zr) zt:=⟨fun e=>by have e':zt=zr:=e;omega⟩;have far: ∀(s:RS) (w1 w2:World),(s.b≠[]→S.b≠[])→Ag (only zt) w1 w2→Bn w1 zr d s→Bn w2 zr d s:=fun s w1 w2 hs st h=>h.chg2 st.chg (fun e=>by have e':zr=zt:=e;omega) (fun hne e=>by have e':d=zt:=e;have:=hd5 (hs hne);omega)
 refine(AV zr d S _ (H5.out.out.chg (Aa (w0:=w5)).chg (fun h=>h) (fun h=>h)) (by omega)).mono ?_;rw[HV.out];rintro e w6 ⟨rfl,h6,c6⟩;have st6:Ag (only zr) _ w6:=⟨c6.out⟩;go_wp2_with (first|(refine KZ ?_;intro ws _ _));have ht6:HB ws zt 36 (BI V 0 0 Aq).toArray :=HB.row_eq (w:=ws) (g:=zt) inferInstance rfl;have H6:=Lib.hid (far (S.at 1) _ _ RS.at_ne (inferInstance:Ag (only zt) w6 ws) h6.out);clear h6;refine(AV zr d (S.at 1) _ H6.out (by have:=S.at_le 1;omega)).mono ?_;rw[HE.out];rintro e w7 ⟨rfl,h7,c7⟩;have st7:Ag (only zr) _ w7:=⟨c7.out⟩;have ht7:HB w7 zt 36 (BI V 0 0 Aq).toArray :=inferInstance;have hk7:1<(BI (V:Int) 0 0 Aq).toArray.size :=by rw[Cr];decide
 go_wp2_with (first|(refine KZ ?_;intro ws _ _));have ht8:HB ws zt 36 (BI V E 0 Aq).toArray :=HB.row_eq (w:=ws) (g:=zt) inferInstance rfl;have H7:=Lib.hid (far (S.at 2) _ _ RS.at_ne (inferInstance:Ag (only zt) w7 ws) h7.out);clear h7;refine(AV zr d (S.at 2) _ H7.out (by have:=S.at_le 2;omega)).mono ?_;rw[HN.out];rintro e w8 ⟨rfl,h8,c8⟩;have st8:Ag (only zr) _ w8:=⟨c8.out⟩;have ht8b:HB w8 zt 36 (BI V E 0 Aq).toArray :=inferInstance;have hk8:2<(BI (V:Int) E 0 Aq).toArray.size :=by rw[Cr];decide
 go_wp2_with (first|(refine KZ ?_;intro ws _ _));have ht9:HB ws zt 36 (BI V E N Aq).toArray :=HB.row_eq (w:=ws) (g:=zt) inferInstance rfl;have H8:=Lib.hid (far (S.at 3) _ _ RS.at_ne (inferInstance:Ag (only zt) w8 ws) h8.out);clear h8;have nw9:Nw w ws:=inferInstance;have hzo9:HB ws zo 36 (BI 0 0 0 Aq).toArray :=inferInstance;refine(Hk H8.out (by have:=S.at_le 3;omega)).mono ?_;rw[HH.out];rintro e w10 ⟨rfl,st10,h10⟩;have ht10:HB w10 zt 36 (BI V E N Aq).toArray :=inferInstance;have hzo10:HB w10 zo 36 (BI 0 0 0 Aq).toArray :=inferInstance;have nw10:Nw w w10:=inferInstance;have hsz10:(BI (V:Int) E N Aq).toArray.size =35:=Cr _ _ _ _;have hput:(BI (V:Int) E N Aq).toArray.toList.take 3++(Aw H.l).toList ++(BI (V:Int) E N Aq).toArray.toList.drop (3+32)=(BI (V:Int) E N H).toArray.toList :=by
  show[Value.int .i64 V, .int .i64 E, .int .i64 N]++(Aw H.l).toList ++(bs Aq.l).drop 32=Value.int .i64 V:: .int .i64 E:: .int .i64 N::bs H.l;rw[show(bs Aq.l).drop 32=[] from rfl,List.append_nil];simp[Aw]
 have HPUT:=Lib.hid hput;have hnb:((S.at 3).raw 32).2.b ≠[]→S.b≠[]:=fun h h0=>h (List.eq_nil_of_length_eq_zero (by
  have h1:=(S.at 3).raw_l 32;have h2:=S.at_le 3;have h3:(S.at 3).b.length =0:=by simpa[h0] using h2
  omega))
 clear hput;go_wp2_with (first|((with_reducible apply Ce);exact rfl;exact rfl;exact ht10;infer_instance;exact Ak.size _;(decide);(rw[hsz10];decide);exact Ek _;exact HPUT.out;intro wp _ ht11)|((with_reducible apply BP);exact rfl;exact ht11;infer_instance;exact Cr _ _ _ _));have H11:Hid (Bn wp zr d (tR S)):=Lib.hid (far (tR S) _ _ hnb (inferInstance:Ag (only zt) w10 wp) h10.out);clear h10;have nw11:Nw w wp:=inferInstance;have hzo11:HB wp zo 36 (BI 0 0 0 Aq).toArray :=inferInstance;refine(Ma V E N H wp).mono ?_;unfold AR;rw[←HI.out];have hR0:(tR S).b.length ≤140737488351232:=Nat.le_trans (Ajg S) hSl;cases I
 case false=>
  rintro e w12 ⟨st12,h12⟩;obtain rfl:e=_:=h12;go_wp2_with fail;have nw12:Nw w w12:=inferInstance;have hb12:HR w12 A (bs b):=nw12.hr HRR.out;have hn12:HR w12 none (bs []):=HR.nilB w12;have HR12:Bn w12 zr d (tR S):=H11.out.chg st12.chg (fun h=>h) (fun h=>h);cases W
  all_goals
   refine(DP (b:=b) (y:=[]) (e0:=1) HR12 hR0 HLE.out rfl).mono ?_;rw[show(Cv (tR S)&&decide ((1:Int)=0)&&decide (b=[]))=false by simp];rintro e w13 ⟨rfl,rfl⟩;go_wp2_with (first|(refine NN (Cr _ _ _ _) (Cr _ _ _ _) (JK _ _ _ _) ?_;intro ws _ _)|(refine Ji (kb0 _) ?_));refine AA rfl rfl rfl (n:=35) (Cr _ _ _ _) rfl ?_;exact⟨Aa,rfl⟩
 case true=>
  rintro e w12 ⟨st12,A5,n5,c5,rfl,hn5,hO5,hA5⟩;have HN5:=Lib.hid hn5;clear hn5;go_wp2_with fail;have nw12:Nw w w12:=inferInstance;have hb12:HR w12 A (bs b):=nw12.hr HRR.out;have hy12:HR w12 A5 (bs (Ae [2,(V:Int),E,N]++H.l)):=inferInstance;have HR12:Bn w12 zr d (tR S):=H11.out.chg st12.chg (fun h=>h) (fun h=>h);refine(DP (b:=b) (y:=Ae [2,(V:Int),E,N]++H.l) (e0:=0) HR12 hR0 HLE.out HN5.out.symm).mono ?_;rw[←HW.out];rw[show(W&&true)=W by simp] at HBK;have e9:(W&&decide ((0:Int)=0)&&decide (b=Ae [2,(V:Int),E,N]++H.l))=W:=by
   cases W
   ·rfl
   rw[decide_eq_true (HBK.out rfl)];rfl
  rw[e9];clear e9;have ht12:HB w12 zt 36 (BI V E N H).toArray :=inferInstance;have hzo12:HB w12 zo 36 (BI 0 0 0 Aq).toArray :=inferInstance;cases W
  case false=>
   rintro e w13 ⟨rfl,rfl⟩;go_wp2_with (first|(refine NN (Cr _ _ _ _) (Cr _ _ _ _) (JK _ _ _ _) ?_;intro ws _ _)|(refine Ji (kb0 _) ?_));refine AA rfl rfl rfl (n:=35) (Cr _ _ _ _) rfl ?_;exact⟨Aa,rfl⟩
  case true=>
   rintro e w13 ⟨rfl,rfl⟩;go_wp2_with (first|(refine NN (Cr _ _ _ _) (Cr _ _ _ _) (JK _ _ _ _) ?_;intro ws _ _)|((with_reducible apply BP);exact rfl;exact ht12;infer_instance;exact Cr _ _ _ _));refine AA rfl rfl rfl (n:=35) (Cr _ _ _ _) rfl ?_;exact⟨Aa,rfl⟩
end Go.Proofs.YtjjhceeookpieaaGreat
end
section
set_option maxRecDepth 100000
open Go Go.RowKit
namespace Go.Proofs.YtjjhceeookpieaaGreat
theorem RS.raw_1 (s:RS) (i:Int):(s.raw i).1.length ≤s.b.length:=by
 unfold RS.raw;split
 ·exact Nat.zero_le _
 exact List.length_take_le' _ _
theorem RS.row_1 (s:RS):s.row.1.length≤s.b.length:=Nat.le_trans (s.num.2.raw_1 _) (RS.num_le s)
theorem CM {g d:Nat} {s:RS} {w:World} (hw:Bn w g d s) (hl:s.b.length≤140737488351232):
    Calls Tryz.prog 147 #[.pointer (some ⟨g,0,none⟩)] w fun e w'=>e= .returned (.string (Al s.row.1))∧Ag (only g) w w'∧Hid (Bn w' g d s.row.2):=by
 go_enter Tryz.func147,Tryz.ntmps147;go_wp2_with fail;refine(PZ g d s w hw (by omega)).mono ?_;rintro e w5 ⟨A5,n5,c5,rfl,hn5,ho5,h5,cc5,hA5⟩;have hr5:HR w5 A5 (bs s.row.1):=⟨ho5.out.rd⟩;have hle:=hn5.out.symm;have HR5:=h5;have st5:Ag (only g) w w5:=⟨cc5.out⟩;clear hn5 ho5 h5 cc5 hA5;go_wp2_with (first|((with_reducible apply Tj);exact rfl;exact hr5;exact hle;exact Tryz.underlying55;exact Tryz.underlying5;exact Tryz.underlying9));go_ret;exact⟨rfl,st5,HR5⟩
end Go.Proofs.YtjjhceeookpieaaGreat
end
