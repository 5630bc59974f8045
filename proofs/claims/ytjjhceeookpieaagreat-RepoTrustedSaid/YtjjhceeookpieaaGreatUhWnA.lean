/- UhWnA, UhWnB, UhWuA -/
import Derived.Test.YtjjhceeookpieaaGreatUhTy
import Derived.Test.YtjjhceeookpieaaGreatUhByte
import Derived.Laws.IdiomStrings
import Derived.Test.YtjjhceeookpieaaGreatUhZ
import Derived.Test.YtjjhceeookpieaaGreatUhOcEl
section
set_option maxRecDepth 100000
set_option maxHeartbeats 1600000
open Go Go.RowKit
namespace Go.Proofs.YtjjhceeookpieaaGreat
def Gp (b:UInt8):Bool:=(decide (97≤b.toNat)&&decide (b.toNat≤122))||(decide (48≤b.toNat)&&decide (b.toNat≤57))||decide (b.toNat=45)
def Bl (l:List UInt8):Bool:=decide (1≤l.length)&&decide (l.length≤12)&&l.all Gp
section
variable {P:Program} {ops:Array Oper} {rest:List Oper} {a:Act} {w:World} {Q:Exit→Act→World→Prop} {dst:Option Tmp} {ty:TypeId} {pos:String} {after:Array Edge}
theorem Aco {src td e:TypeId} {x:Operand} {s:ByteArray} {l:List UInt8} (hx:a.eval x= .string s) (hl:s.data.toList=l) (hs:P.underlying src=some .string) (hd:P.underlying td=some (.slice e)) (he:P.underlying e=some (.int .u8))
    (h: ∀A c w',Ag Ab w w'→HR w' A (bs l)→wpList P ops Q rest (a.put dst (.slice A l.length c)) w'):wpList P ops Q (⟨dst, .convert src td x,ty,pos,after,none⟩::rest) a w:=by
 subst hl;have hsz:s.size=s.data.toList.length:=(Array.length_toList (xs:=s.data)).symm;refine Av rfl ?_ (h (some ⟨w.heap.size,0,none⟩) (grownCap w s.size 0 e) (w.drew.alloc (.cells (bytesRow s (grownCap w s.size 0 e)) e ((bytesRow s (grownCap w s.size 0 e)).size,(bytesRow s (grownCap w s.size 0 e)).size +1))) ⟨(Au.refl _ _).drew.alloc _⟩ ⟨?_⟩)
 ·show((convert src td (a.eval x))>>=fun v=>pure (Next.value v)).run P w=_;rw[hx,Sem.run_bind,run_bytes_of_string w src td e s hs hd he,←hsz];rfl
 have h1:=Rd.lit w.drew (bytesRow s (grownCap w s.size 0 e)).toList e (f:=((bytesRow s (grownCap w s.size 0 e)).size,(bytesRow s (grownCap w s.size 0 e)).size +1));rw[Array.toArray_toList] at h1;intro k u hk;refine h1 k u ?_;have h2:(bytesRow s (grownCap w s.size 0 e)).toList =bs s.data.toList++List.replicate (grownCap w s.size 0 e -s.size) (.int .u8 0):=by
  unfold bytesRow bs GV;rw[Array.toList_append,Array.toList_map,Array.toList_replicate]
 rw[h2,List.getElem?_append_left (List.getElem?_eq_some_iff.1 hk).1];exact hk
theorem Pk {t:TypeId} {x:Operand} {A:Option Addr} {k v:Nat} {xs:List UInt8} (hv:(Eo xs k).toNat =v) (hx:a.eval x=AN A k) (hr:HR w A (bs xs)) (ht:AL P t) (hk:k<xs.length)
    (h:wpList P ops Q rest (a.put dst (.int .u8 (v:Int))) w):wpList P ops Q (⟨dst, .load t x,ty,pos,after,none⟩::rest) a w:=by
 subst hv;exact XR hx hr ht hk h
end
theorem UT (l:List UInt8) (k:Nat) (h:k<l.length):(l.take (k+1)).all Gp=((l.take k).all Gp&&Gp (Eo l k)):=by
 rw[List.take_add_one,List.getElem?_eq_getElem h,List.all_append];simp[Eo,List.getD_eq_getElem?_getD,h]
theorem Acp (l:List UInt8) (k:Nat) (h:k<l.length) (hb:Gp (Eo l k)=false):l.all Gp=false:=by
 rw[List.all_eq_false];refine⟨l[k],List.getElem_mem _, ?_⟩;have:Eo l k=l[k]:=by simp[Eo,List.getD_eq_getElem?_getD,h]
 rw[←this,hb];decide
theorem Bs (s:ByteArray) (l:List UInt8) (hs:s.data.toList=l) (w:World):
    Calls Tryz.prog 116 #[.string s] w fun e w'=>e= .returned (.bool (Bl l))∧Ag Ab w w':=by
 have hsz:s.size=l.length:=by rw[←hs];exact(Array.length_toList (xs:=s.data)).symm
 obtain⟨n,hn⟩: ∃n,l.length=n:=⟨_,rfl⟩;rw[hn] at hsz;by_cases c1:n=0∨12<n
 ·have hb:Bl l=false:=by
    unfold Bl;rw[hn];rcases c1 with rfl|h
    ·rfl
    rw[decide_eq_false (by omega: ¬n≤12),Bool.and_false,Bool.false_and]
  rw[hb];have q:((s.size:Int)==0)=true∨(((s.size:Int)==0)=false∧12<(s.size:Int)):=by
   rcases c1 with h|h
   ·exact .inl (Afv (by omega))
   exact .inr ⟨Ti (by omega),by omega⟩
  clear c1 hb hn hsz;go_enter Tryz.func116,Tryz.ntmps116;rcases q with q1|⟨q1,q2⟩
  all_goals
   go_wp2_with fail;go_ret;exact⟨rfl,Aa⟩
 have q1:((s.size:Int)==0)=false:=Ti (by omega);have q2: ¬12<(s.size:Int):=by omega
 have n1:1≤n:=by omega
 have n2:n≤12:=by omega
 have HN:=Lib.hid hn;have HSZ:=Lib.hid hsz;clear c1 hn hsz;go_enter Tryz.func116,Tryz.ntmps116;go_wp2_with (first|((with_reducible apply(Aco (l:=l)));exact rfl;exact hs;exact Tryz.underlying9;exact Tryz.underlying55;exact Tryz.underlying5;intro B cB wB _ _));have hln:l.length=n:=HN.out;rw[hln];go_loopw [16] (fun iv wr=>∃k:Nat,k≤n∧iv= .int .i64 (k:Int)∧Ag Ab w wr∧HR wr B (bs l)∧Hid ((l.take k).all Gp=true)) (fun iv _=>n -(intOf iv).toNat)
 case atStart=>exact⟨0,Nat.zero_le _,rfl,Aa,inferInstance,Lib.hid rfl⟩
 case round=>
  obtain⟨k,hk,rfl,_,_,HA⟩:=hrel;by_cases hlt:k<n
  ·have hltI:(k:Int)<n:=by omega
   have hkl:k<l.length:=by omega
   obtain⟨v,hv⟩: ∃v,(Eo l k).toNat =v:=⟨_,rfl⟩;have hg:Gp (Eo l k)=((decide (97≤v)&&decide (v≤122))||(decide (48≤v)&&decide (v≤57))||decide (v=45)):=by unfold Gp;rw[hv]
   have HV:=Lib.hid hv;have hcase:(Gp (Eo l k)=true∧((97≤(v:Int)∧(v:Int)≤122)∨(¬97≤(v:Int)∧48≤(v:Int)∧(v:Int)≤57)∨(¬97≤(v:Int)∧¬48≤(v:Int)∧((v:Int)==45)=true)))∨(Gp (Eo l k)=false∧((97≤(v:Int)∧¬(v:Int)≤122∧48≤(v:Int)∧¬(v:Int)≤57∧((v:Int)==45)=false)∨(¬97≤(v:Int)∧48≤(v:Int)∧¬(v:Int)≤57∧((v:Int)==45)=false)∨(¬97≤(v:Int)∧¬48≤(v:Int)∧((v:Int)==45)=false))):=by
    rw[hg];by_cases a1:97≤v
    ·by_cases a2:v≤122
     ·exact .inl ⟨by simp[a1,a2], .inl ⟨by omega,by omega⟩⟩
     exact .inr ⟨by simp[a1,a2];omega, .inl ⟨by omega,by omega,by omega,by omega,Ti (by omega)⟩⟩
    by_cases a3:48≤v
    ·by_cases a4:v≤57
     ·exact .inl ⟨by simp[a3,a4], .inr (.inl ⟨by omega,by omega,by omega⟩)⟩
     exact .inr ⟨by simp[a1,a4];omega, .inr (.inl ⟨by omega,by omega,by omega,Ti (by omega)⟩)⟩
    by_cases a5:v=45
    ·exact .inl ⟨by simp[a5], .inr (.inr ⟨by omega,by omega,Afv (by omega)⟩)⟩
    exact .inr ⟨by simp[a1,a3,a5], .inr (.inr ⟨by omega,by omega,Ti (by omega)⟩)⟩
   clear hg hv;rcases hcase with⟨hg,hc⟩|⟨hb,hc⟩
   ·have HA2:=Lib.hid (show(l.take (k+1)).all Gp=true by rw[UT l k hkl,HA.out,hg];rfl);clear hg;rcases hc with⟨a1,a2⟩|⟨a1,a2,a3⟩|⟨a1,a2,a3⟩
    all_goals
     go_wp2_with (first|((with_reducible apply NT);exact rfl;exact rfl;infer_instance;infer_instance;exact hln;exact hlt)|((with_reducible apply(Pk (t:=5) HV.out));exact rfl;infer_instance;infer_instance;exact hkl));refine⟨⟨k+1,by omega,by simp,Aa,inferInstance,HA2⟩,by simp[intOf];omega⟩
   have hres:Bl l=false:=by
     unfold Bl;rw[Acp l k hkl hb,Bool.and_false]
   have HR1:=Lib.hid hres;clear hb hres;rcases hc with⟨a1,a2,a3,a4,a5⟩|⟨a1,a2,a3,a5⟩|⟨a1,a2,a5⟩
   all_goals
    go_wp2_with (first|((with_reducible apply NT);exact rfl;exact rfl;infer_instance;infer_instance;exact hln;exact hlt)|((with_reducible apply(Pk (t:=5) HV.out));exact rfl;infer_instance;infer_instance;exact hkl));go_ret;exact⟨congrArg (fun b=>Ending.returned (.bool b)) HR1.out.symm,Aa⟩
  obtain rfl:k=n:=by omega
  have hltI: ¬(k:Int)<k:=by omega
  have hres:Bl l=true:=by
   unfold Bl;have h1:=HA.out;rw[List.take_of_length_le (by omega)] at h1;rw[HN.out,h1,decide_eq_true n1,decide_eq_true n2];rfl
  have HR1:=Lib.hid hres;clear hres;go_wp2_with fail;go_ret;exact⟨congrArg (fun b=>Ending.returned (.bool b)) HR1.out.symm,Aa⟩
end Go.Proofs.YtjjhceeookpieaaGreat
end
section
open Go Go.RowKit
namespace Go.Proofs.YtjjhceeookpieaaGreat
section
variable {P:Program} {ops:Array Oper} {rest:List Oper} {a:Act} {w:World} {Q:Exit→Act→World→Prop} {dst:Option Tmp} {ty:TypeId} {pos:String} {after:Array Edge}
theorem LW {t:TypeId} {x ix:Operand} {s:ByteArray} {l:List UInt8} {k v:Nat} (hs:s.data.toList=l) (hv:(Eo l k).toNat =v) (hx:a.eval x= .string s) (hi:a.eval ix= .int .i64 (k:Int)) (hu:P.underlying t=some .string) (hk:k<l.length)
    (h:wpList P ops Q rest (a.put dst (.int .u8 (v:Int))) w):wpList P ops Q (⟨dst, .index t x ix,ty,pos,after,none⟩::rest) a w:=
 Av rfl (by
  subst hs;have hsz:s.data.toList.length=s.size:=Array.length_toList;have h1:(0:Int)≤(k:Int)∧(k:Int)<s.size:=by omega
  show((Instr.index t (a.eval x) (a.eval ix))>>=fun v=>pure (Next.value v)).run P w=_;rw[hx,hi,Sem.run_bind,run_index_string w t s .i64 (k:Int) hu,dif_pos h1];have e:(s[(k:Int).toNat]'(by omega)).toNat =v:=by
   rw[←hv];have hk2:k<s.data.size:=by rw[←Array.length_toList];exact hk
   have e1:s[(k:Int).toNat]'(by omega)=s.data[k]:=rfl;have e2:s.data[k]? =some s.data[k]:=Array.getElem?_eq_getElem hk2;rw[e1];simp only[Eo,List.getD_eq_getElem?_getD,Array.getElem?_toList,e2,Option.getD_some]
  rw[e];rfl) h
end
theorem Zz (v:Nat) {g:Bool} (hg:g=((decide (97≤v)&&decide (v≤122))||(decide (48≤v)&&decide (v≤57))||decide (v=45))):
    (g=true∧((97≤(v:Int)∧(v:Int)≤122)∨(97≤(v:Int)∧¬(v:Int)≤122∧False)∨(¬97≤(v:Int)∧48≤(v:Int)∧(v:Int)≤57)∨(¬97≤(v:Int)∧¬48≤(v:Int)∧((v:Int)==45)=true)))∨(g=false∧((97≤(v:Int)∧¬(v:Int)≤122∧48≤(v:Int)∧¬(v:Int)≤57∧((v:Int)==45)=false)∨(¬97≤(v:Int)∧48≤(v:Int)∧¬(v:Int)≤57∧((v:Int)==45)=false)∨(¬97≤(v:Int)∧¬48≤(v:Int)∧((v:Int)==45)=false))):=by
 subst hg;by_cases a1:97≤v
 ·by_cases a2:v≤122
  ·exact .inl ⟨by simp[a1,a2], .inl ⟨by omega,by omega⟩⟩
  exact .inr ⟨by simp[a1,a2];omega, .inl ⟨by omega,by omega,by omega,by omega,Ti (by omega)⟩⟩
 by_cases a3:48≤v
 ·by_cases a4:v≤57
  ·exact .inl ⟨by simp[a3,a4], .inr (.inr (.inl ⟨by omega,by omega,by omega⟩))⟩
  exact .inr ⟨by simp[a1,a4];omega, .inr (.inl ⟨by omega,by omega,by omega,Ti (by omega)⟩)⟩
 by_cases a5:v=45
 ·exact .inl ⟨by simp[a5], .inr (.inr (.inr ⟨by omega,by omega,Afv (by omega)⟩))⟩
 exact .inr ⟨by simp[a1,a3,a5], .inr (.inr ⟨by omega,by omega,Ti (by omega)⟩)⟩
end Go.Proofs.YtjjhceeookpieaaGreat
end
section
set_option maxRecDepth 100000
open Go Go.RowKit
namespace Go.Proofs.YtjjhceeookpieaaGreat
instance Akr:AL Tryz.prog 286:=⟨fun _=>by kernel_rfl,fun _=>by kernel_rfl⟩
instance Aks:AL Tryz.prog 181:=⟨fun _=>by kernel_rfl,fun _=>by kernel_rfl⟩
section
variable {P:Program} {ops:Array Oper} {rest:List Oper} {a:Act} {w:World} {Q:Exit→Act→World→Prop} {dst:Option Tmp} {ty:TypeId} {pos:String} {after:Array Edge}
theorem UX {src td e:TypeId} {x:Operand} {s:ByteArray} {l:List UInt8} (hx:a.eval x= .string s) (hl:s.data.toList=l) (hs:P.underlying src=some .string) (hd:P.underlying td=some (.slice e)) (he:P.underlying e=some (.int .u8))
    (h: ∀c w',Ag Ab w w'→HR w' (some ⟨w.heap.size,0,none⟩) (bs l)→wpList P ops Q rest (a.put dst (.slice (some ⟨w.heap.size,0,none⟩) l.length c)) w'):wpList P ops Q (⟨dst, .convert src td x,ty,pos,after,none⟩::rest) a w:=by
 subst hl;have hsz:s.size=s.data.toList.length:=(Array.length_toList (xs:=s.data)).symm;refine Av rfl ?_ (h (grownCap w s.size 0 e) (w.drew.alloc (.cells (bytesRow s (grownCap w s.size 0 e)) e ((bytesRow s (grownCap w s.size 0 e)).size,(bytesRow s (grownCap w s.size 0 e)).size +1))) ⟨(Au.refl _ _).drew.alloc _⟩ ⟨?_⟩)
 ·show((convert src td (a.eval x))>>=fun v=>pure (Next.value v)).run P w=_;rw[hx,Sem.run_bind,run_bytes_of_string w src td e s hs hd he,←hsz];rfl
 have h1:=Rd.lit w.drew (bytesRow s (grownCap w s.size 0 e)).toList e (f:=((bytesRow s (grownCap w s.size 0 e)).size,(bytesRow s (grownCap w s.size 0 e)).size +1));rw[Array.toArray_toList] at h1;intro k u hk;refine h1 k u ?_;have h2:(bytesRow s (grownCap w s.size 0 e)).toList =bs s.data.toList++List.replicate (grownCap w s.size 0 e -s.size) (.int .u8 0):=by
  unfold bytesRow bs GV;rw[Array.toList_append,Array.toList_map,Array.toList_replicate]
 rw[h2,List.getElem?_append_left (List.getElem?_eq_some_iff.1 hk).1];exact hk
end
theorem Acu (B:Option Addr) (n c:Nat) (w:World):(Instr.buildSlice 181 1 #[(0, .slice B n c)]).run Tryz.prog w= .ok (.slice (some ⟨w.heap.size,0,none⟩) 1 1) (w.alloc (.cells #[.slice B n c] 55)):=by kernel_rfl
theorem SO {w:World} {g bl bv zr n c:Nat} {A B:Option Addr} {xs ys:List UInt8} {fx:FuncId} {t1 t2 t3:TypeId} (hf:fx= 222) (hw:Cz w g A xs) [hbl:HB w bl t1 #[.func (.func fx) #[] #[]]] [hbv:HB w bv t2 #[.slice (some ⟨zr,0,none⟩) 1 1]] [hbz:HB w zr t3 #[.slice B n c]] (hr:Rd w B (bs ys)) (hn:ys.length=n) (hz: ¬Wf g A zr) (hB:Dx (Wf g A) B (bs ys)) (hx:xs.length+ys.length≤10000000000):
    Calls Tryz.prog 240 #[.pointer (some ⟨g,0,none⟩), .pointer (some ⟨bl,0,none⟩), .pointer (some ⟨bv,0,none⟩)] w fun e w'=>e= .returned (.tuple #[])∧∃A',Cz w' g A' (xs++Ap ys)∧Au (Wf g A) w w'∧Cb w A A':=by
 subst hf;subst hn;go_enter Tryz.func240,Tryz.ntmps240;go_wp2_with (first|(refine GU ?_));refine(RJ g A xs (some ⟨zr,0,none⟩) 1 1 [⟨B,c,ys⟩] w hw hbz.rdL rfl ?_ ?_ ?_).mono ?_
 ·rintro _ ad e hk;injection e with e
  subst e;exact hz hk
 ·intro r hm;rw[List.mem_singleton.1 hm];exact⟨hr,hB⟩
 ·simp only[BJ];omega
 rintro e w5 ⟨rfl,A5,h5,h6,h7⟩;go_wp2_with fail
 go_end0
 refine⟨rfl,A5, ?_,h6.out,h7.out⟩;have h8:=h5.out;rwa[show Fk [(⟨B,c,ys⟩:La)]=Ap ys by simp[Fk]] at h8
theorem UY {zr n c:Nat} {B:Option Addr} {ys:List UInt8} {w:World} {t3:TypeId} [hbz:HB w zr t3 #[.slice B n c]] (hr:Rd w B (bs ys)) (hn:ys.length=n):
    Calls Tryz.prog 221 #[.func (.func 222) #[] #[], .slice (some ⟨zr,0,none⟩) 1 1] w fun e w'=>∃f caps T,e= .returned (.func (.func f) #[] caps)∧Ag Ab w w'∧EV w' T (.func (.func f) #[] caps) (Ap ys)∧∀x,T x→w.heap.size≤x∨x=zr∨An B x:=by
 go_enter Tryz.func221,Tryz.ntmps221;go_wp2_with (first|((with_reducible apply(Dd (dst:=some 2) (cs:=#[.func (.func 222) #[] #[]])));exact rfl;exact rfl;intro bl wbl _ _ _)|(refine WBL 3 ?_;intro bv wbv _ _ _));go_ret;have h1:HB wbv bl 286 #[.func (.func 222) #[] #[]]:=inferInstance;have h2:HB wbv bv 181 #[.slice (some ⟨zr,0,none⟩) 1 1]:=inferInstance;have h3:HB wbv zr t3 #[.slice B n c]:=inferInstance;have hst:Ag Ab w wbv:=Aa;have hbl:w.heap.size≤bl:=Nat.le_of_eq (inferInstance:AW w bl).eq.symm;have hbv:w.heap.size≤bv:=by
  have e1:=(inferInstance:AW wbl bv).eq;have e2:=(inferInstance:Ay w wbl).out;omega
 have hr2:=hr.later hst.chg;refine⟨_,_,fun x=>x=bl∨x=bv∨x=zr∨(bs ys≠[]∧An B x),rfl,hst,⟨fun x hx=> ?_,_,_,rfl,EI Tryz.func240 (by kernel_rfl) rfl,fun w1 g A xs hc hw hT hlen=> ?_⟩,fun x hx=> ?_⟩
 ·rcases hx with rfl|rfl|rfl|⟨hne,ad,e,hk⟩
  ·exact h1.out.lt
  ·exact h2.out.lt
  ·exact h3.out.lt
  rw[←hk];exact DC hr2 hne e
 ·have k1:HB w1 bl 286 #[.func (.func 222) #[] #[]]:=⟨h1.out.chg hc (fun hk=>hk (.inl rfl))⟩;have k2:HB w1 bv 181 #[.slice (some ⟨zr,0,none⟩) 1 1]:=⟨h2.out.chg hc (fun hk=>hk (.inr (.inl rfl)))⟩;have k3:HB w1 zr t3 #[.slice B n c]:=⟨h3.out.chg hc (fun hk=>hk (.inr (.inr (.inl rfl))))⟩;have hle:ys.length≤(Ap ys).length :=by
   unfold Ap;rw[List.length_append];omega
  exact SO rfl hw (hr2.chg hc (fun hne ad e hk=>hk (.inr (.inr (.inr ⟨hne,ad,e,rfl⟩))))) hn (fun h=>hT zr h (.inr (.inr (.inl rfl)))) (fun hne ad e hk=>hT _ hk (.inr (.inr (.inr ⟨hne,ad,e,rfl⟩)))) (by omega)
 rcases hx with rfl|rfl|rfl|⟨hne,hk⟩
 ·exact .inl hbl
 ·exact .inl hbv
 ·exact .inr (.inl rfl)
 exact .inr (.inr hk)
theorem ZB {n c:Nat} {B:Option Addr} {ys:List UInt8} {w:World} (hr:Rd w B (bs ys)) (hn:ys.length=n):
    Calls Tryz.prog 189 #[.slice B n c] w fun e w'=>∃f caps T,e= .returned (.func (.func f) #[] caps)∧Ag Ab w w'∧EV w' T (.func (.func f) #[] caps) (Ap ys)∧∀x,T x→w.heap.size≤x∨An B x:=by
 have kb:=Acu B n c;go_enter Tryz.func189,Tryz.ntmps189;go_wp2_with (first|(refine BM 4 (kb _) ?_;intro zr wb _ _ _));have hzr:w.heap.size≤zr:=Nat.le_trans (inferInstance:Ay w _).out (Nat.le_of_eq (inferInstance:AW _ zr).eq.symm);refine(UY (zr:=zr) (hr.later (Aa (w0:=w)).chg) hn).mono ?_;rintro e w5 ⟨f,caps,T,rfl,hs,hL,hT⟩;go_wp2_with fail;go_ret;refine⟨f,caps,T,rfl,Aa,hL,fun x hx=> ?_⟩;rcases hT x hx with h|rfl|h
 ·exact .inl (Nat.le_trans (Aa (w0:=w)).chg.size h)
 ·exact .inl hzr
 exact .inr h
theorem AD (s:ByteArray) (l:List UInt8) (hs:s.data.toList=l) (w:World):
    Calls Tryz.prog 125 #[.string s] w fun e w'=>∃f caps T,e= .returned (.func (.func f) #[] caps)∧Ag Ab w w'∧EV w' T (.func (.func f) #[] caps) (Ap l)∧∀x,T x→w.heap.size≤x:=by
 go_enter Tryz.func125,Tryz.ntmps125;go_wp2_with (first|((with_reducible apply(UX (l:=l)));exact rfl;exact hs;exact Tryz.underlying9;exact Tryz.underlying55;exact Tryz.underlying5;intro cB wB _ hB));refine(ZB hB.out rfl).mono ?_;rintro e w5 ⟨f,caps,T,rfl,hs5,hL,hT⟩;go_wp2_with fail;go_ret;refine⟨f,caps,T,rfl,Aa,hL,fun x hx=> ?_⟩;rcases hT x hx with h|⟨ad,e,hk⟩
 ·exact Nat.le_trans (inferInstance:Ay w wB).out h
 injection e with e
 subst e;exact Nat.le_of_eq hk
end Go.Proofs.YtjjhceeookpieaaGreat
end
