/- UhQmA, UhQmI, UhQmB, UhQmC, UhQmD, UhQmE, UhQmF, UhHasW, UhUnC, UhRoA, UhRoR, UhRoK, UhQmR -/
import Derived.Test.YtjjhceeookpieaaGreatUhMapH
import Derived.Test.YtjjhceeookpieaaGreatUhZ
import Derived.Test.YtjjhceeookpieaaGreatUhKyA
import Derived.Test.YtjjhceeookpieaaGreatUhTy
import Derived.Test.YtjjhceeookpieaaGreatUhEq
section
open Go Go.RowKit
namespace Go.Proofs.YtjjhceeookpieaaGreat
structure AC where
 key:Ak
 leaf:Int
 A:Option Addr
 c:Nat
 l:List Ak
 B:Option Addr
 k:Nat
 p:List Ak
def AC.sig (r:AC):List Value:=[.int .i64 r.leaf, .slice r.A r.l.length r.c, .slice r.B r.p.length r.k]
instance Ali:Af AC:=⟨35,fun r=>bs r.key.l++r.sig,fun r=>by simp[AC.sig,Am],fun r u hu=>by
 rcases List.mem_append.1 hu with h|h
 ·exact Ei r.key.l u h
 simp only[AC.sig,List.mem_cons,List.not_mem_nil,or_false] at h;rcases h with rfl|rfl|rfl<;>rfl,⟨Aq,0,none,0,[],none,0,[]⟩⟩
theorem Oz (r:AC):((Af.enc r).drop 0).take 32=bs r.key.l:=by
 show(bs r.key.l++r.sig).take 32=_;rw[List.take_left' (by rw[Am,r.key.len])]
theorem TT (r:AC):((Af.enc r).drop 32).take 3=[.int .i64 r.leaf, .slice r.A r.l.length r.c, .slice r.B r.p.length r.k]:=by
 show((bs r.key.l++r.sig).drop 32).take 3=_;rw[List.drop_left' (by rw[Am,r.key.len])];rfl
def CC (w:World) (r:AC):Prop:=Rd w r.A (cellsOf r.l)∧Rd w r.B (cellsOf r.p)
theorem CC.nw {w0 w:World} [n:Nw w0 w] {r:AC} (h:CC w0 r):CC w r:=⟨h.1.chg n.out (fun _ _ _ h=>h),h.2.chg n.out (fun _ _ _ h=>h)⟩
instance Alj:Bm Tryz.prog 56 139 35 88 (.agg (Aw Aq.l++#[.int .i64 0, .slice none 0 0, .slice none 0 0])):=⟨⟨Tryz.underlying56,by kernel_rfl,rfl,by decide⟩⟩
instance Alk:Cl Tryz.prog 139 35:=⟨by kernel_rfl,_,Tryz.underlying139,rfl⟩
instance All:Cl Tryz.prog 58 2:=⟨by kernel_rfl,_,Tryz.underlying58,rfl⟩
instance Alm:Cl Tryz.prog 30 2:=⟨by kernel_rfl,_,Tryz.underlying30,rfl⟩
instance Aln:AL Tryz.prog 55:=⟨fun _=>by kernel_rfl,fun _=>by kernel_rfl⟩
instance Alo:AL Tryz.prog 56:=⟨fun _=>by kernel_rfl,fun _=>by kernel_rfl⟩
def Ds (m:List UInt8) (h:Ak) (r:AC):Bool:=decide (r.key=h)&&FI h m r.leaf r.l r.p
def Gd (m:List UInt8) (l:List AC) (ks:List Ak):Nat→List Ak
 |0=>[]
 |k+1=>Gd m l ks k++(if AG ks k∈ks.take k then[] else if(l.take 4).any (Ds m (AG ks k)) then[AG ks k] else[])
section
variable {P:Program} {ops:Array Oper} {rest:List Oper} {a:Act} {w:World} {Q:Exit→Act→World→Prop} {dst:Option Tmp} {ty:TypeId} {pos:String} {after:Array Edge} {gd:Option (Nat×Bool)}
theorem JU {α:Type} [Af α] {t:TypeId} {x:Operand} {A:Option Addr} {k j s n:Nat} (ht:Cl P t n) (hx:a.eval x=AN A (k*s+j)) {l:List α} (hr:HR w A (cellsOf l)) (hs:Af.size α=s) (hn:0<n) (hk:k<l.length) {vs:List Value} (hv:((Af.enc (gt l k)).drop j).take n=vs) (hl:vs.length=n):
    (execOp a.eval ⟨dst, .load t x,ty,pos,after,gd⟩).run P w= .ok (.value (.agg vs.toArray)) w:=by
 show((Instr.loadAt t (a.eval x))>>=fun v=>pure (Next.value v)).run P w=_;subst hs;have hlen:j+n≤Af.size α:=by
  have h1:=congrArg List.length hv;rw[List.length_take,List.length_drop,Af.len,hl] at h1;omega
 have hc:((cellsOf l).drop (k*Af.size α+j)).take n=vs:=by
  have h2:=Da l k hk;have h3:(((cellsOf l).drop (k*Af.size α)).drop j).take n=(((((cellsOf l).drop (k*Af.size α)).take (Af.size α))).drop j).take n:=by
   rw[List.drop_take,List.take_take,Nat.min_eq_left (by omega)]
  rw[←List.drop_drop,h3,h2];exact hv
 rw[hx,Sem.run_bind,CU (k:=k*Af.size α+j) (cs:=vs) hr.out ht hl hc hn];rfl
theorem OA {α:Type} [Af α] {t:TypeId} {x:Operand} {A:Option Addr} {k j s n:Nat} (ht:Cl P t n) (hx:a.eval x=AN A (k*s+j)) {l:List α} (hr:HR w A (cellsOf l)) (hs:Af.size α=s) (hn:0<n) (hk:k<l.length) {vs:List Value} (hv:((Af.enc (gt l k)).drop j).take n=vs) (hl:vs.length=n)
    (h:wpList P ops Q rest (a.put dst (.agg vs.toArray)) w):wpList P ops Q (⟨dst, .load t x,ty,pos,after,none⟩::rest) a w:=Av rfl (JU ht hx hr hs hn hk hv hl) h
theorem Ew {t:TypeId} {x:Operand} {g k n:Nat} (hx:a.eval x= .pointer (some ⟨g,k,none⟩)) {tb:TypeId} {cs:Array Value} (hb:HB w g tb cs) (ht:Cl P t n) (hn:0<n) {vs:List Value} (hv:(cs.toList.drop k).take n=vs) (hl:vs.length=n):
    (execOp a.eval ⟨dst, .load t x,ty,pos,after,gd⟩).run P w= .ok (.value (.agg vs.toArray)) w:=by
 show((Instr.loadAt t (a.eval x))>>=fun v=>pure (Next.value v)).run P w=_;have e:a.eval x=AN (some ⟨g,0,none⟩) k:=by
  rw[hx];simp[AN,DD,DQ]
 rw[e,Sem.run_bind,CU (k:=k) (cs:=vs) (HR.ofBlkL hb).out ht hl hv hn];rfl
theorem CA {t:TypeId} {x:Operand} {g k n:Nat} (hx:a.eval x= .pointer (some ⟨g,k,none⟩)) {tb:TypeId} {cs:Array Value} (hb:HB w g tb cs) (ht:Cl P t n) (hn:0<n) {vs:List Value} (hv:(cs.toList.drop k).take n=vs) (hl:vs.length=n)
    (h:wpList P ops Q rest (a.put dst (.agg vs.toArray)) w):wpList P ops Q (⟨dst, .load t x,ty,pos,after,none⟩::rest) a w:=Av rfl (Ew hx hb ht hn hv hl) h
theorem KN {α:Type} [Af α] {t:TypeId} {x:Operand} {A:Option Addr} {k j s:Nat} (ht:Cl P t 32) (hx:a.eval x=AN A (k*s+j)) {l:List α} (hr:HR w A (cellsOf l)) (hs:Af.size α=s) (hk:k<l.length) {hh:Ak} (hv:((Af.enc (gt l k)).drop j).take 32=bs hh.l):
    (execOp a.eval ⟨dst, .load t x,ty,pos,after,gd⟩).run P w= .ok (.value (.agg (Aw hh.l))) w:=JU ht hx hr hs (by decide) hk hv (by rw[Am,hh.len])
theorem Eh {t:TypeId} {x:Operand} {g k:Nat} (hx:a.eval x= .pointer (some ⟨g,k,none⟩)) {tb:TypeId} {cs:Array Value} (hb:HB w g tb cs) (ht:Cl P t 32) {hh:Ak} (hv:(cs.toList.drop k).take 32=bs hh.l)
    (h:wpList P ops Q rest (a.put dst (.agg (Aw hh.l))) w):wpList P ops Q (⟨dst, .load t x,ty,pos,after,none⟩::rest) a w:=CA hx hb ht (by decide) hv (by rw[Am,hh.len]) h
end
theorem Ju {M:Option Addr} {nb cb:Nat} {m:List UInt8} (pub:Ak) (r:AC) (w0:World) {w:World} [n:Nw w0 w] [hM:HR w M (bs m)] (hr:CC w0 r) (hm:m.length=nb) (hn:nb≤140737488351232):
    Calls Tryz.prog 203 #[.agg (Aw pub.l), .slice M nb cb, .agg #[.int .i64 r.leaf, .slice r.A r.l.length r.c, .slice r.B r.p.length r.k]] w fun e w'=>e= .returned (.bool (FI pub m r.leaf r.l r.p))∧Ag Ab w w':=by
 have h1:HR w r.A (cellsOf r.l):=⟨(CC.nw (w:=w) hr).1⟩;have h2:HR w r.B (cellsOf r.p):=⟨(CC.nw (w:=w) hr).2⟩;exact Oh pub r.leaf hm hn rfl rfl
end Go.Proofs.YtjjhceeookpieaaGreat
end
section
set_option maxRecDepth 100000
set_option maxHeartbeats 1600000
open Go Go.RowKit
namespace Go.Proofs.YtjjhceeookpieaaGreat
def Ge (l:List Ak) (i:Nat):Nat→Bool
 |0=>true
 |k+1=>Ge l i k&&!decide (AG l i=AG l k)
def KO (l:List Ak):Nat→Bool
 |0=>true
 |i+1=>KO l i&&Ge l i i
theorem KP (l:List Ak) (i:Nat): ∀k,Ge l i k=true↔∀j,j<k→AG l i≠AG l j
 |0=>by simp[Ge]
 |k+1=>by
  rw[Ge,Bool.and_eq_true,KP l i k];simp only[Bool.not_eq_true',decide_eq_false_iff_not];constructor
  ·rintro⟨h1,h2⟩ j hj;by_cases hjk:j=k
   ·subst hjk;exact h2
   exact h1 j (by omega)
  exact fun h=>⟨fun j hj=>h j (by omega),h k (by omega)⟩
theorem KQ (l:List Ak) (i:Nat) (h:Ge l i i=false): ∀n,i<n→KO l n=false
 |0,hn=>by omega
 |n+1,hn=>by
  rw[KO];by_cases hin:i=n
  ·subst hin;rw[h,Bool.and_false]
  rw[KQ l i h n (by omega),Bool.false_and]
theorem RT (l:List Ak) (i:Nat) (hi:i<l.length):(AG l i∈l.take i)↔Ge l i i=false:=by
 rw[←Bool.not_eq_true,KP,List.mem_iff_getElem];constructor
 ·rintro⟨j,hj,e⟩ h;rw[List.length_take] at hj;refine h j (by omega) ?_;rw[←e];simp[AG,List.getD_eq_getElem?_getD,show j<l.length by omega]
 intro h;apply Classical.byContradiction;intro hn;refine h fun j hj e=>hn ⟨j,by rw[List.length_take];omega, ?_⟩
 rw[e];simp[AG,List.getD_eq_getElem?_getD,show j<l.length by omega]
theorem RU {A:Option Addr} {n c:Nat} {l:List Ak} (x:Ak) {w:World} [hr:HR w A (cellsOf l)] (hl:l.length=n) (hmax:n≤1000000000):
    Calls Tryz.prog 238 #[.slice A n c, .agg (Aw x.l)] w fun e w'=>∃r:Int,e= .returned (.int .i64 r)∧(0≤r↔x∈l)∧Ag Ab w w':=by
 have hq:=Adj;have HL:=Lib.hid hl;go_enter Tryz.func238,Tryz.ntmps238;go_wp2_with (first|(refine Bv 3 ?_;intro zx wzx _ _ _));go_loopw [8] (fun kv wr=>∃k:Nat,k≤n∧kv= .int .i64 (k:Int)∧(∀j,j<k→x≠AG l j)∧Ag Ab w wr∧HB wr zx 23 (Aw x.l)) (fun kv _=>n -(intOf kv).toNat)
 case atStart=>exact⟨0,Nat.zero_le _,rfl,fun j hj=>by omega,Aa,inferInstance⟩
 case round=>
  obtain⟨k,hk,rfl,hj,_,_⟩:=hrel;have HJ:=Lib.hid hj;clear hj;by_cases hlt:k<n
  ·have hltI:(k:Int)<n:=by omega
   have hkl:k<l.length:=by omega
   by_cases hx:x=AG l k
   ·have hd:decide (x=AG l k)=true:=decide_eq_true hx;have hmem:x∈l:=by
     rw[hx];simp[AG,List.getD_eq_getElem?_getD,hkl]
    have HM:=Lib.hid hmem;clear hx hmem;go_wp2_with fail;refine Ah (Ab) (by kernel_rfl) (fun wd _ _=> ?_);refine KW 0 ?_;refine YS 1 ?_;refine YS 2 ?_;refine Vj 3 ?_;refine Vk 4 23 ?_;refine YS 5 ?_;refine Yd ?_;go_wp2_with fail;go_ret;exact⟨_,rfl,⟨fun _=>HM.out,fun _=>by omega⟩,Aa⟩
   have hd:decide (x=AG l k)=false:=decide_eq_false hx;have HX:=Lib.hid hx;clear hx;go_wp2_with fail;refine Ah (Ab) (by kernel_rfl) (fun wd _ _=> ?_);refine KW 0 ?_;refine YS 1 ?_;refine YS 2 ?_;refine Vj 3 ?_;refine Vk 4 23 ?_;refine YS 5 ?_;refine Yd ?_;go_wp2_with fail;refine⟨⟨k+1,by omega,by go_num,fun j hj=> ?_,Aa,inferInstance⟩,by simp[intOf];omega⟩;by_cases hjk:j=k
   ·subst hjk;exact HX.out
   exact HJ.out j (by omega)
  have hltI: ¬(k:Int)<n:=by omega
  go_wp2_with fail;go_ret;refine⟨_,rfl,⟨fun h=>by simp at h,fun h=> ?_⟩,Aa⟩;obtain⟨j,hj,e⟩:=List.mem_iff_getElem.1 h;have:=HL.out;refine absurd ?_ (HJ.out j (by omega));rw[←e];simp[AG,List.getD_eq_getElem?_getD,hj]
theorem IW {A:Option Addr} {n c:Nat} {l:List Ak} (x:Ak) {w:World} [hr:HR w A (cellsOf l)] (hl:l.length=n) (hmax:n≤1000000000):
    Calls Tryz.prog 216 #[.slice A n c, .agg (Aw x.l)] w fun e w'=>e= .returned (.bool (decide (x∈l)))∧Ag Ab w w':=by
 go_enter Tryz.func216,Tryz.ntmps216;go_wp2_with (first|(refine Bv 3 ?_;intro zx wzx _ _ _)|(refine Cp ?_));refine(RU (l:=l) x hl hmax).mono ?_;rintro e w1 ⟨r,rfl,hr,_⟩;have hd:decide (0≤r)=decide (x∈l):=decide_eq_decide.2 hr;have HD:=Lib.hid hd;clear hd hr;go_wp2_with fail;go_ret;refine⟨?_,Aa⟩;rw[←HD.out];rfl
def Nf (l:List Ak) (need:Int):Bool:=decide (l.length≤4)&&decide (1≤need)&&decide (need≤l.length)&&KO l l.length
end Go.Proofs.YtjjhceeookpieaaGreat
end
section
open Go Go.RowKit
namespace Go.Proofs.YtjjhceeookpieaaGreat
end Go.Proofs.YtjjhceeookpieaaGreat
end
section
open Go Go.RowKit Go.WideMaps
namespace Go.Proofs.YtjjhceeookpieaaGreat
instance Alp:Fj Tryz.prog 23 5:=⟨⟨Tryz.underlying23,by kernel_rfl,by kernel_rfl,by kernel_rfl⟩,Tryz.underlying5,⟨Tryz.prog.types.size -1,by kernel_rfl⟩⟩
instance As.bornHMH (w:World) (z g m:Nat) (f:Ak→Bool) [b:AW w z] [h:HMH Tryz.prog 23 w g m f]:As (only z) g:=⟨fun e=>by
 have e':g=z:=e;have:=h.out.lt;rw[e',b.eq] at this;omega⟩
instance As.laterHMH (w:World) (z g m:Nat) (f:Ak→Bool) [b:AW w g] [h:HMH Tryz.prog 23 w z m f]:As (only z) g:=⟨fun e=>by
 have e':g=z:=e;have:=h.out.lt;rw[←e',b.eq] at this;omega⟩
instance As.grewHMH (w:World) (A A':Option Addr) (g m:Nat) (f:Ak→Bool) [k:Mc w A A'] [h:HMH Tryz.prog 23 w g m f] [o:As (An A) g]:As (An A') g:=⟨fun⟨ad,e,hk⟩=>by
 rcases k.out with h1|h1
 ·rw[h1] at e;exact o.out ⟨ad,e,hk⟩
 rw[h1] at e;injection e with e
 have:=h.out.lt;rw[←hk,←e] at this;exact absurd this (Nat.lt_irrefl _)⟩
theorem YK (ks:List Ak) (k:Nat) (h:k<ks.length):ks.take (k+1)=ks.take k++[AG ks k]:=by
 rw[←List.take_append_getElem h];simp[AG,List.getD_eq_getElem?_getD,h]
def Ae3 (R:List Ak) (w w':World) (e:Ending):Prop:=∃B n' c',e= .returned (.slice B n' c')∧R.length=n'∧HR w' B (cellsOf R)∧Ag Ab w w'
theorem Ae4 (m:List UInt8) (l:List AC) (ks:List Ak) (k:Nat) (h:AG ks k∈ks.take k):Gd m l ks (k+1)=Gd m l ks k:=by
 rw[Gd,if_pos h,List.append_nil]
theorem Aau (m:List UInt8) (l:List AC) (ks:List Ak) (k:Nat) (h: ¬AG ks k∈ks.take k) (hs:(l.take 4).any (Ds m (AG ks k))=false):Gd m l ks (k+1)=Gd m l ks k:=by
 rw[Gd,if_neg h,hs,if_neg (by decide),List.append_nil]
theorem YL (m:List UInt8) (l:List AC) (ks:List Ak) (k:Nat) (h: ¬AG ks k∈ks.take k) (hs:(l.take 4).any (Ds m (AG ks k))=true):Gd m l ks (k+1)=Gd m l ks k++[AG ks k]:=by
 rw[Gd,if_neg h,hs,if_pos rfl]
end Go.Proofs.YtjjhceeookpieaaGreat
end
section
set_option maxRecDepth 100000
set_option maxHeartbeats 6400000
open Go Go.RowKit Go.WideMaps
namespace Go.Proofs.YtjjhceeookpieaaGreat
theorem Aav (m:List UInt8) (l:List AC) (x:Ak) (j:Nat) (h:j<l.length):(l.take (j+1)).any (Ds m x)=((l.take j).any (Ds m x)||Ds m x (gt l j)):=by
 rw[←List.take_append_getElem h,List.any_append];simp[gt,List.getD_eq_getElem?_getD,h]
theorem Ag7 (m:List UInt8) (l:List AC) (x:Ak) (j:Nat) (h:j<l.length) (h4:j<4) (hs:Ds m x (gt l j)=true):(l.take 4).any (Ds m x)=true:=by
 refine List.any_eq_true.2 ⟨gt l j, ?_,hs⟩;have e:gt l j=(l.take 4)[j]'(by rw[List.length_take];omega):=by simp[gt,List.getD_eq_getElem?_getD,h]
 rw[e];exact List.getElem_mem _
theorem Ae5 (m:List UInt8) (l:List AC) (x:Ak) (j:Nat) (h:j=l.length∨j=4) (hj:j≤l.length) (h4:j≤4) (hs:(l.take j).any (Ds m x)=false):(l.take 4).any (Ds m x)=false:=by
 rcases h with rfl|rfl
 ·rw[List.take_of_length_le (by omega)];rwa[List.take_of_length_le (Nat.le_refl _)] at hs
 exact hs
theorem VT {m:List UInt8} {nb cb n c nk ck:Nat} {M A K:Option Addr} {l:List AC} {ks:List Ak} (need:Int) {w:World} [hm:HR w M (bs m)] [hr:HR w A (cellsOf l)] [hK:HR w K (cellsOf ks)] (hM: ∀r∈l,CC w r) (hl:l.length=n) (hmax:n≤9223372036854775807) (hlm:m.length=nb) (hn:nb≤140737488351232) (hk:ks.length=nk) (hk9:nk≤10000):
    Calls Tryz.prog 146 #[.agg #[.slice M nb cb, .slice A n c], .agg #[.slice K nk ck, .int .i64 need]] w fun e w'=>Ae3 (Gd m l ks nk) w w' e:=by
 have hq:=Adj;have HMI:=Lib.hid hM;have HM:=Lib.hid hlm;have HL:=Lib.hid hl;clear hM hlm;go_enter Tryz.func146,Tryz.ntmps146;go_wp2_with (first|(refine Bv 2 ?_;intro ze wze _ _ _)|(refine Bv 3 ?_;intro zk wzk _ _ _));go_loopw [5,6] (fun sv kv wr=>∃(k:Nat) (B:Option Addr) (c2 nw:Nat) (W:List Ak),k≤nk∧nw≤k∧kv= .int .i64 (k:Int)∧sv= .slice B nw c2∧Hid (W=Gd m l ks k)∧Hid (W.length=nw)∧Ag Ab w wr∧HO wr 23 32 B nw c2 (cellsOf W)∧Aj w B∧As (An B) ze∧As (An B) zk∧HB wr ze 58 #[.slice M nb cb, .slice A n c]∧HB wr zk 30 #[.slice K nk ck, .int .i64 need]) (fun _ kv _=>nk -(intOf kv).toNat)
 case atStart=>exact⟨0,none,0,0,[],Nat.zero_le _,Nat.le_refl _,rfl,rfl,Lib.hid rfl,Lib.hid rfl,Aa,⟨Cm.nil _ _ _⟩,Aj.of_none _,inferInstance,inferInstance,inferInstance,inferInstance⟩
 case round=>
  obtain⟨k,B,c2,nw,W,hkn,hnw,rfl,rfl,HW,HWL,_,_,_,_,_,_,_⟩:=hrel;by_cases hlt:k<nk
  ·have hltI:(k:Int)<nk:=by omega
   have hkl:k<ks.length:=by omega
   go_wp2_with (first|((with_reducible apply Ac);exact rfl;infer_instance;(first|(exact rfl)|(exact tg_hw _)|(exact tg_ctr _)|(exact tg_ecu _)|(exact srch_who)|exact srch_fd)));go_loopw [7,8] (fun bv jv wj=>∃(j:Nat) (b:Bool),j≤k∧bv= .bool b∧jv= .int .i64 (j:Int)∧Hid (b=decide (AG ks k∈ks.take j))∧Ag Ab wr wj) (fun _ jv _=>k -(intOf jv).toNat)
   case atStart=>exact⟨0,false,Nat.zero_le _,rfl,rfl,Lib.hid (by simp),⟨Au.refl _ _⟩⟩
   case round=>
    obtain⟨j,b,hjk,rfl,rfl,HB1,_⟩:=hrel;by_cases hjl:j<k
    ·have hjI:(j:Int)<k:=by omega
     have hjn:j<nk:=by omega
     have hjL:j<ks.length:=by omega
     have hTK:=YK ks j hjL;cases b with
     |true=>
      have HB2:Hid (true=decide (AG ks k∈ks.take (j+1))):=Lib.hid (by
       have h1:=HB1.out;rw[hTK];refine(decide_eq_true (List.mem_append_left _ (of_decide_eq_true h1.symm))).symm)
      clear hTK;go_wp2_with fail;refine Ah (Ab) (by kernel_rfl) (fun wd _ _=> ?_);refine YS 0 ?_;refine YS 1 ?_;refine YU 2 ?_;refine YU 3 ?_;refine YU 4 ?_;refine YU 5 ?_;refine YU 6 ?_;refine YU 7 ?_;refine YU 8 ?_;refine YU 9 ?_;refine YU 10 ?_;refine YU 11 ?_;refine YU 12 ?_;refine YS 13 ?_;refine YS 14 ?_;refine Yd ?_;go_wp2_with fail;exact⟨⟨j+1,true,by omega,rfl,by go_num,HB2,Aa⟩,by simp[intOf];omega⟩
     |false=>
      have HB2:Hid (decide (AG ks j=AG ks k)=decide (AG ks k∈ks.take (j+1))):=Lib.hid (by
       have h1: ¬AG ks k∈ks.take j:=of_decide_eq_false HB1.out.symm;rw[hTK];refine decide_eq_decide.2 ⟨fun h=> ?_,fun h=> ?_⟩
       ·rw[←h];exact List.mem_append_right _ (List.mem_singleton.2 rfl)
       rcases List.mem_append.1 h with h2|h2
       ·exact absurd h2 h1
       exact(List.mem_singleton.1 h2).symm)
      clear hTK;go_wp2_with fail;refine Ah (Ab) (by kernel_rfl) (fun wd _ _=> ?_);refine YS 0 ?_;refine YS 1 ?_;refine YS 2 ?_;refine' tk 3 _ rfl (by kernel_rfl) (by kernel_rfl) (by kernel_rfl) (fun _ _ _ h=>h) (yo (by rfl) fun w' _=> ?_) inferInstance ?_;rotate_left
      ·((apply Ai);exact rfl;infer_instance;infer_instance;(first|(exact rfl)|(exact tg_hw _)|(exact tg_ctr _)|(exact tg_ecu _)|(exact srch_who)|exact srch_fd))
      try simp only[Act.put,sA,sB,sC]
      refine YS 4 ?_;refine Vj 5 ?_;refine Vk 6 23 ?_;refine YS 7 ?_;refine' tk 8 _ rfl (by kernel_rfl) (by kernel_rfl) (by kernel_rfl) (fun _ _ _ h=>h) (yo (by rfl) fun w' _=> ?_) inferInstance ?_;rotate_left
      ·((apply Ai);exact rfl;infer_instance;infer_instance;(first|(exact rfl)|(exact tg_hw _)|(exact tg_ctr _)|(exact tg_ecu _)|(exact srch_who)|exact srch_fd))
      try simp only[Act.put,sA,sB,sC]
      refine YS 9 ?_;refine Vj 10 ?_;refine Vk 11 23 ?_;refine YS 12 ?_;refine YS 13 ?_;refine YS 14 ?_;refine Yd ?_;go_wp2_with fail;exact⟨⟨j+1,_,by omega,rfl,by go_num,HB2,Aa⟩,by simp[intOf];omega⟩
    have hjI: ¬(j:Int)<k:=by omega
    have hje:j=k:=by omega
    have HB2:Hid (b=decide (AG ks k∈ks.take k)):=Lib.hid (by
     have h1:=HB1.out;rwa[hje] at h1)
    clear hje;go_wp2_with fail;go_loopw [5,7,9] (fun sv bv jv wt=>∃(j:Nat) (b:Bool) (B:Option Addr) (c2 nw:Nat) (W:List Ak),j≤n∧j≤4∧nw≤k+1∧(b=false→nw≤k)∧sv= .slice B nw c2∧bv= .bool b∧jv= .int .i64 (j:Int)∧Hid (b=true→W=Gd m l ks (k+1))∧Hid (b=false→W=Gd m l ks k∧¬AG ks k∈ks.take k∧(l.take j).any (Ds m (AG ks k))=false)∧Hid (W.length=nw)∧Ag Ab w wt∧HO wt 23 32 B nw c2 (cellsOf W)∧Aj w B∧As (An B) ze∧As (An B) zk∧HB wt ze 58 #[.slice M nb cb, .slice A n c]∧HB wt zk 30 #[.slice K nk ck, .int .i64 need]) (fun _ _ jv _=>5 -(intOf jv).toNat)
    case atStart=>
     refine⟨0,b,B,c2,nw,W,Nat.zero_le _,Nat.zero_le _,by omega,fun _=>hnw,rfl,rfl,rfl,Lib.hid (fun h=> ?_),Lib.hid (fun h=>⟨HW.out, ?_,by simp⟩),HWL,Aa,inferInstance,inferInstance,inferInstance,inferInstance,inferInstance,inferInstance⟩
     ·rw[Ae4 m l ks k (of_decide_eq_true (by rw[←HB2.out];exact h))];exact HW.out
     exact of_decide_eq_false (by rw[←HB2.out];exact h)
    case round=>
     clear HW HWL HB1 HB2;obtain⟨j,b,B,c2,nw,W,hjn,hj4,hnw1,hnw2,rfl,rfl,rfl,HT,HF,HWL,_,_,_,_,_,_,_⟩:=hrel;cases b with
     |true=>
      have HW2:Hid (W=Gd m l ks (k+1)):=Lib.hid (HT.out rfl);clear HT HF;by_cases hjx:j<n
      ·have e1:(j:Int)<n:=by omega
       by_cases hjy:j<4
       ·have e2:(j:Int)<4:=by omega
        go_wp2_with (first|((with_reducible apply Ac);exact rfl;infer_instance;(first|(exact rfl)|(exact tg_hw _)|(exact tg_ctr _)|(exact tg_ecu _)|(exact srch_who)|exact srch_fd)));exact⟨⟨k+1,B,c2,nw,W,by omega,by omega,by go_num,rfl,HW2,HWL,Aa,inferInstance,inferInstance,inferInstance,inferInstance,inferInstance,inferInstance⟩,by simp[intOf];omega⟩
       have e2: ¬(j:Int)<4:=by omega
       go_wp2_with (first|((with_reducible apply Ac);exact rfl;infer_instance;(first|(exact rfl)|(exact tg_hw _)|(exact tg_ctr _)|(exact tg_ecu _)|(exact srch_who)|exact srch_fd)));exact⟨⟨k+1,B,c2,nw,W,by omega,by omega,by go_num,rfl,HW2,HWL,Aa,inferInstance,inferInstance,inferInstance,inferInstance,inferInstance,inferInstance⟩,by simp[intOf];omega⟩
      have e1: ¬(j:Int)<n:=by omega
      go_wp2_with (first|((with_reducible apply Ac);exact rfl;infer_instance;(first|(exact rfl)|(exact tg_hw _)|(exact tg_ctr _)|(exact tg_ecu _)|(exact srch_who)|exact srch_fd)));exact⟨⟨k+1,B,c2,nw,W,by omega,by omega,by go_num,rfl,HW2,HWL,Aa,inferInstance,inferInstance,inferInstance,inferInstance,inferInstance,inferInstance⟩,by simp[intOf];omega⟩
     |false=>
      have hnk:=hnw2 rfl;by_cases hjx:j<n∧j<4
      ·obtain⟨hjx,hjy⟩:=hjx;have e1:(j:Int)<n:=by omega
       have e2:(j:Int)<4:=by omega
       have hjl:j<l.length:=by omega
       obtain⟨h1,h2,h3⟩:=HF.out rfl;have han:=Aav m l (AG ks k) j hjl;rw[h3,Bool.false_or] at han;have hmem:gt l j∈l:=BD l j hjl;have HMK:Hid (CC w (gt l j)):=Lib.hid (HMI.out _ hmem);have kb1:=LR (AG ks k);have hnw9:nw+1≤1000000000:=by omega
       obtain⟨V,hV⟩: ∃V,V=FI (AG ks k) m (gt l j).leaf (gt l j).l (gt l j).p :=⟨_,rfl⟩;have HV:=Lib.hid hV;by_cases hkey:(gt l j).key =AG ks k
       ·have hd:decide ((gt l j).key =AG ks k)=true:=decide_eq_true hkey;have hsg:Ds m (AG ks k) (gt l j)=V:=by rw[Ds,hd,hV];rfl
        rw[hsg] at han;cases V with
        |true=>
         have HW2:Hid (W++[AG ks k]=Gd m l ks (k+1)):=Lib.hid (by rw[YL m l ks k h2 (Ag7 m l _ j hjl hjy hsg),←h1]);have HWL2:Hid ((W++[AG ks k]).length =nw+1):=Lib.hid (by rw[List.length_append,HWL.out];rfl);clear hV HT HF hnw2 h1 h2 h3 han hmem hkey hsg;go_wp2_with (first|((with_reducible apply Ac);exact rfl;infer_instance;(first|(exact rfl)|(exact tg_hw _)|(exact tg_ctr _)|(exact tg_ecu _)|(exact srch_who)|exact srch_fd)));refine Ah (Ab) (by kernel_rfl) (fun wd _ _=> ?_);refine YS 0 ?_;refine' tk 1 _ rfl (by kernel_rfl) (by kernel_rfl) (by kernel_rfl) (fun _ _ _ h=>h) (yo (by rfl) fun w' _=> ?_) inferInstance ?_;rotate_left
         ·((apply Ai);exact rfl;infer_instance;infer_instance;(first|(exact rfl)|(exact tg_hw _)|(exact tg_ctr _)|(exact tg_ecu _)|(exact srch_who)|exact srch_fd))
         try simp only[Act.put,sA,sB,sC]
         refine YS 2 ?_;refine Gx 3 AC 56 ?_;refine Jh 4 139 Tryz.underlying139 ?_;refine' tk 5 _ rfl (by kernel_rfl) (by kernel_rfl) (by kernel_rfl) (fun _ _ _ h=>h) (yo (by rfl) fun w' _=> ?_) inferInstance ?_;rotate_left
         ·((apply(KN (α:=AC) (t:=23) (j:=0) (s:=35)));infer_instance;exact rfl;infer_instance;exact rfl;(first|(with_reducible assumption)|omega);exact Oz _)
         try simp only[Act.put,sA,sB,sC]
         refine YS 6 ?_;refine' tk 7 _ rfl (by kernel_rfl) (by kernel_rfl) (by kernel_rfl) (fun _ _ _ h=>h) (yo (by rfl) fun w' _=> ?_) inferInstance ?_;rotate_left
         ·((apply Ai);exact rfl;infer_instance;infer_instance;(first|(exact rfl)|(exact tg_hw _)|(exact tg_ctr _)|(exact tg_ecu _)|(exact srch_who)|exact srch_fd))
         try simp only[Act.put,sA,sB,sC]
         refine YS 8 ?_;refine Vj 9 ?_;refine Vk 10 23 ?_;refine YS 11 ?_;refine YS 12 ?_;refine YS 13 ?_;refine' tk 14 _ rfl (by kernel_rfl) (by kernel_rfl) (by kernel_rfl) (fun _ _ _ h=>h) (yo (by rfl) fun w' _=> ?_) inferInstance ?_;rotate_left
         ·((apply Ai);exact rfl;infer_instance;infer_instance;(first|(exact rfl)|(exact tg_hw _)|(exact tg_ctr _)|(exact tg_ecu _)|(exact srch_who)|exact srch_fd))
         try simp only[Act.put,sA,sB,sC]
         refine YS 15 ?_;refine Vj 16 ?_;refine Vk 17 23 ?_;refine YS 18 ?_;refine' tk 19 _ rfl (by kernel_rfl) (by kernel_rfl) (by kernel_rfl) (fun _ _ _ h=>h) (yo (by rfl) fun w' _=> ?_) inferInstance ?_;rotate_left
         ·((apply Ai);exact rfl;infer_instance;infer_instance;(first|(exact rfl)|(exact tg_hw _)|(exact tg_ctr _)|(exact tg_ecu _)|(exact srch_who)|exact srch_fd))
         try simp only[Act.put,sA,sB,sC]
         refine YS 20 ?_;refine' tk 21 _ rfl (by kernel_rfl) (by kernel_rfl) (by kernel_rfl) (fun _ _ _ h=>h) (yo (by rfl) fun w' _=> ?_) inferInstance ?_;rotate_left
         ·((apply Ai);exact rfl;infer_instance;infer_instance;(first|(exact rfl)|(exact tg_hw _)|(exact tg_ctr _)|(exact tg_ecu _)|(exact srch_who)|exact srch_fd))
         try simp only[Act.put,sA,sB,sC]
         refine YS 22 ?_;refine Gx 23 AC 56 ?_;refine Jh 24 139 Tryz.underlying139 ?_;refine' tk 25 _ rfl (by kernel_rfl) (by kernel_rfl) (by kernel_rfl) (fun _ _ _ h=>h) (yo (by rfl) fun w' _=> ?_) inferInstance ?_;rotate_left
         ·((apply(JU (α:=AC) (t:=132) (j:=32) (s:=35)));infer_instance;exact rfl;infer_instance;exact rfl;(decide);(first|(with_reducible assumption)|omega);exact TT _;exact rfl)
         try simp only[Act.put,sA,sB,sC]
         refine Yg 26 fun K_ hK_=> ?_
         go_simp;refine(Ju (AG ks k) (gt l j) w HMK.out HM.out hn).mono ?_;rw[←HV.out];rintro e w1 ⟨rfl,_⟩;refine Yz hK_ ?_;clear hK_ K_;refine YS 27 ?_;refine Yd ?_;go_wp2_with (first|(refine BM 85 (kb1 _) ?_;intro zs wb _ _ _)|((with_reducible apply FN);exact rfl;exact rfl;infer_instance;infer_instance;infer_instance;exact hnw9;intro B2 c3 wa _ _ _ _)|((with_reducible apply Ac);exact rfl;infer_instance;(first|(exact rfl)|(exact tg_hw _)|(exact tg_ctr _)|(exact tg_ecu _)|(exact srch_who)|exact srch_fd))|(refine WIH ?_)|(refine WLH 23 ?_));refine⟨⟨j+1,true,B2,c3,nw+1,W++[AG ks k],by omega,by omega,by omega,by simp,rfl,rfl,by go_num,Lib.hid (fun _=>HW2.out),Lib.hid (fun h=>by cases h),HWL2,Aa,inferInstance,inferInstance,inferInstance,inferInstance,inferInstance,inferInstance⟩,by simp[intOf];omega⟩
        |false=>
         have HF2:Hid (W=Gd m l ks k∧¬AG ks k∈ks.take k∧(l.take (j+1)).any (Ds m (AG ks k))=false):=Lib.hid ⟨h1,h2,han⟩;clear hV HT HF hnw2 h1 h2 h3 han hmem hkey hsg;go_wp2_with (first|((with_reducible apply Ac);exact rfl;infer_instance;(first|(exact rfl)|(exact tg_hw _)|(exact tg_ctr _)|(exact tg_ecu _)|(exact srch_who)|exact srch_fd)));refine Ah (Ab) (by kernel_rfl) (fun wd _ _=> ?_);refine YS 0 ?_;refine' tk 1 _ rfl (by kernel_rfl) (by kernel_rfl) (by kernel_rfl) (fun _ _ _ h=>h) (yo (by rfl) fun w' _=> ?_) inferInstance ?_;rotate_left
         ·((apply Ai);exact rfl;infer_instance;infer_instance;(first|(exact rfl)|(exact tg_hw _)|(exact tg_ctr _)|(exact tg_ecu _)|(exact srch_who)|exact srch_fd))
         try simp only[Act.put,sA,sB,sC]
         refine YS 2 ?_;refine Gx 3 AC 56 ?_;refine Jh 4 139 Tryz.underlying139 ?_;refine' tk 5 _ rfl (by kernel_rfl) (by kernel_rfl) (by kernel_rfl) (fun _ _ _ h=>h) (yo (by rfl) fun w' _=> ?_) inferInstance ?_;rotate_left
         ·((apply(KN (α:=AC) (t:=23) (j:=0) (s:=35)));infer_instance;exact rfl;infer_instance;exact rfl;(first|(with_reducible assumption)|omega);exact Oz _)
         try simp only[Act.put,sA,sB,sC]
         refine YS 6 ?_;refine' tk 7 _ rfl (by kernel_rfl) (by kernel_rfl) (by kernel_rfl) (fun _ _ _ h=>h) (yo (by rfl) fun w' _=> ?_) inferInstance ?_;rotate_left
         ·((apply Ai);exact rfl;infer_instance;infer_instance;(first|(exact rfl)|(exact tg_hw _)|(exact tg_ctr _)|(exact tg_ecu _)|(exact srch_who)|exact srch_fd))
         try simp only[Act.put,sA,sB,sC]
         refine YS 8 ?_;refine Vj 9 ?_;refine Vk 10 23 ?_;refine YS 11 ?_;refine YS 12 ?_;refine YS 13 ?_;refine' tk 14 _ rfl (by kernel_rfl) (by kernel_rfl) (by kernel_rfl) (fun _ _ _ h=>h) (yo (by rfl) fun w' _=> ?_) inferInstance ?_;rotate_left
         ·((apply Ai);exact rfl;infer_instance;infer_instance;(first|(exact rfl)|(exact tg_hw _)|(exact tg_ctr _)|(exact tg_ecu _)|(exact srch_who)|exact srch_fd))
         try simp only[Act.put,sA,sB,sC]
         refine YS 15 ?_;refine Vj 16 ?_;refine Vk 17 23 ?_;refine YS 18 ?_;refine' tk 19 _ rfl (by kernel_rfl) (by kernel_rfl) (by kernel_rfl) (fun _ _ _ h=>h) (yo (by rfl) fun w' _=> ?_) inferInstance ?_;rotate_left
         ·((apply Ai);exact rfl;infer_instance;infer_instance;(first|(exact rfl)|(exact tg_hw _)|(exact tg_ctr _)|(exact tg_ecu _)|(exact srch_who)|exact srch_fd))
         try simp only[Act.put,sA,sB,sC]
         refine YS 20 ?_;refine' tk 21 _ rfl (by kernel_rfl) (by kernel_rfl) (by kernel_rfl) (fun _ _ _ h=>h) (yo (by rfl) fun w' _=> ?_) inferInstance ?_;rotate_left
         ·((apply Ai);exact rfl;infer_instance;infer_instance;(first|(exact rfl)|(exact tg_hw _)|(exact tg_ctr _)|(exact tg_ecu _)|(exact srch_who)|exact srch_fd))
         try simp only[Act.put,sA,sB,sC]
         refine YS 22 ?_;refine Gx 23 AC 56 ?_;refine Jh 24 139 Tryz.underlying139 ?_;refine' tk 25 _ rfl (by kernel_rfl) (by kernel_rfl) (by kernel_rfl) (fun _ _ _ h=>h) (yo (by rfl) fun w' _=> ?_) inferInstance ?_;rotate_left
         ·((apply(JU (α:=AC) (t:=132) (j:=32) (s:=35)));infer_instance;exact rfl;infer_instance;exact rfl;(decide);(first|(with_reducible assumption)|omega);exact TT _;exact rfl)
         try simp only[Act.put,sA,sB,sC]
         refine Yg 26 fun K_ hK_=> ?_
         go_simp;refine(Ju (AG ks k) (gt l j) w HMK.out HM.out hn).mono ?_;rw[←HV.out];rintro e w1 ⟨rfl,_⟩;refine Yz hK_ ?_;clear hK_ K_;refine YS 27 ?_;refine Yd ?_;go_wp2_with fail;refine⟨⟨j+1,false,B,c2,nw,W,by omega,by omega,by omega,fun _=>hnk,rfl,rfl,by go_num,Lib.hid (fun h=>by cases h),Lib.hid (fun _=>HF2.out),HWL,Aa,inferInstance,inferInstance,inferInstance,inferInstance,inferInstance,inferInstance⟩,by simp[intOf];omega⟩
       have hd:decide ((gt l j).key =AG ks k)=false:=decide_eq_false hkey;have hsg:Ds m (AG ks k) (gt l j)=false:=by rw[Ds,hd];rfl
       rw[hsg] at han;have HF2:Hid (W=Gd m l ks k∧¬AG ks k∈ks.take k∧(l.take (j+1)).any (Ds m (AG ks k))=false):=Lib.hid ⟨h1,h2,han⟩;clear hV HT HF hnw2 h1 h2 h3 han hmem hkey hsg;go_wp2_with (first|((with_reducible apply Ac);exact rfl;infer_instance;(first|(exact rfl)|(exact tg_hw _)|(exact tg_ctr _)|(exact tg_ecu _)|(exact srch_who)|exact srch_fd)));refine Ah (Ab) (by kernel_rfl) (fun wd _ _=> ?_);refine YS 0 ?_;refine' tk 1 _ rfl (by kernel_rfl) (by kernel_rfl) (by kernel_rfl) (fun _ _ _ h=>h) (yo (by rfl) fun w' _=> ?_) inferInstance ?_;rotate_left
       ·((apply Ai);exact rfl;infer_instance;infer_instance;(first|(exact rfl)|(exact tg_hw _)|(exact tg_ctr _)|(exact tg_ecu _)|(exact srch_who)|exact srch_fd))
       try simp only[Act.put,sA,sB,sC]
       refine YS 2 ?_;refine Gx 3 AC 56 ?_;refine Jh 4 139 Tryz.underlying139 ?_;refine' tk 5 _ rfl (by kernel_rfl) (by kernel_rfl) (by kernel_rfl) (fun _ _ _ h=>h) (yo (by rfl) fun w' _=> ?_) inferInstance ?_;rotate_left
       ·((apply(KN (α:=AC) (t:=23) (j:=0) (s:=35)));infer_instance;exact rfl;infer_instance;exact rfl;(first|(with_reducible assumption)|omega);exact Oz _)
       try simp only[Act.put,sA,sB,sC]
       refine YS 6 ?_;refine' tk 7 _ rfl (by kernel_rfl) (by kernel_rfl) (by kernel_rfl) (fun _ _ _ h=>h) (yo (by rfl) fun w' _=> ?_) inferInstance ?_;rotate_left
       ·((apply Ai);exact rfl;infer_instance;infer_instance;(first|(exact rfl)|(exact tg_hw _)|(exact tg_ctr _)|(exact tg_ecu _)|(exact srch_who)|exact srch_fd))
       try simp only[Act.put,sA,sB,sC]
       refine YS 8 ?_;refine Vj 9 ?_;refine Vk 10 23 ?_;refine YS 11 ?_;refine YS 12 ?_;refine YU 13 ?_;refine YU 14 ?_;refine YU 15 ?_;refine YU 16 ?_;refine YU 17 ?_;refine YU 18 ?_;refine YU 19 ?_;refine YU 20 ?_;refine YU 21 ?_;refine YU 22 ?_;refine YU 23 ?_;refine YU 24 ?_;refine YU 25 ?_;refine YU 26 ?_;refine YS 27 ?_;refine Yd ?_;go_wp2_with fail;refine⟨⟨j+1,false,B,c2,nw,W,by omega,by omega,by omega,fun _=>hnk,rfl,rfl,by go_num,Lib.hid (fun h=>by cases h),Lib.hid (fun _=>HF2.out),HWL,Aa,inferInstance,inferInstance,inferInstance,inferInstance,inferInstance,inferInstance⟩,by simp[intOf];omega⟩
      have HW2:Hid (W=Gd m l ks (k+1)):=Lib.hid (by
        obtain⟨h1,h2,h3⟩:=HF.out rfl;have h4:=HL.out;rw[Aau m l ks k h2 (Ae5 m l _ j (by omega) (by omega) hj4 h3)];exact h1)
      clear HT HF hnw2;by_cases hjy:j<n
      ·have e1:(j:Int)<n:=by omega
       have e2: ¬(j:Int)<4:=by omega
       go_wp2_with (first|((with_reducible apply Ac);exact rfl;infer_instance;(first|(exact rfl)|(exact tg_hw _)|(exact tg_ctr _)|(exact tg_ecu _)|(exact srch_who)|exact srch_fd)));exact⟨⟨k+1,B,c2,nw,W,by omega,by omega,by go_num,rfl,HW2,HWL,Aa,inferInstance,inferInstance,inferInstance,inferInstance,inferInstance,inferInstance⟩,by simp[intOf];omega⟩
      have e1: ¬(j:Int)<n:=by omega
      go_wp2_with (first|((with_reducible apply Ac);exact rfl;infer_instance;(first|(exact rfl)|(exact tg_hw _)|(exact tg_ctr _)|(exact tg_ecu _)|(exact srch_who)|exact srch_fd)));exact⟨⟨k+1,B,c2,nw,W,by omega,by omega,by go_num,rfl,HW2,HWL,Aa,inferInstance,inferInstance,inferInstance,inferInstance,inferInstance,inferInstance⟩,by simp[intOf];omega⟩
  have hltI: ¬(k:Int)<nk:=by omega
  have hkn2:k=nk:=by omega
  have HWW:Hid (W=Gd m l ks nk):=Lib.hid (by rw[←hkn2];exact HW.out);clear hkn2;go_wp2_with (first|((with_reducible apply Ac);exact rfl;infer_instance;(first|(exact rfl)|(exact tg_hw _)|(exact tg_ctr _)|(exact tg_ecu _)|(exact srch_who)|exact srch_fd)));go_ret;rw[←HWW.out];exact⟨B,nw,c2,rfl,HWL.out,inferInstance,Aa⟩
end Go.Proofs.YtjjhceeookpieaaGreat
end
section
set_option maxRecDepth 100000
set_option maxHeartbeats 3200000
open Go Go.RowKit Go.WideMaps
namespace Go.Proofs.YtjjhceeookpieaaGreat
theorem DU {A:Option Addr} {n c:Nat} {l:List Ak} (need:Int) {w:World} [hr:HR w A (cellsOf l)] (hl:l.length=n) (hmax:n≤4398046511104):
    Calls Tryz.prog 145 #[.agg #[.slice A n c, .int .i64 need]] w fun e w'=>e= .returned (.bool (Nf l need))∧Ag Ab w w':=by
 have hq:=Adj;obtain⟨R,hR⟩: ∃R,R=Nf l need:=⟨_,rfl⟩;have hRe:=hR;rw[Nf,hl] at hRe;rw[←hR];clear hR;by_cases h0:n<1∨4<n∨need<1∨(n:Int)<need
 ·have hf:R=false:=by
    rw[hRe];rcases h0 with h|h|h|h
    ·by_cases h1:1≤need
     ·rw[decide_eq_false (show ¬need≤(n:Int) by omega)];simp
     rw[decide_eq_false h1];simp
    ·rw[decide_eq_false (show ¬n≤4 by omega)];simp
    ·rw[decide_eq_false (show ¬1≤need by omega)];simp
    rw[decide_eq_false (show ¬need≤(n:Int) by omega)];simp
  have hc:(n:Int)<1∨(¬(n:Int)<1∧4<(n:Int))∨(¬(n:Int)<1∧¬4<(n:Int)∧need<1)∨(¬(n:Int)<1∧¬4<(n:Int)∧¬need<1∧(n:Int)<need):=by omega
  rw[hf];clear h0 hf hRe;rcases hc with h1|⟨h1,h2⟩|⟨h1,h2,h3⟩|⟨h1,h2,h3,h4⟩
  all_goals
   go_enter Tryz.func145,Tryz.ntmps145;go_wp2_with (first|go_skip|(refine Bv 1 ?_;intro zk wzk _ _ _)|(refine Ct ?_)|(refine CG ?_)|(refine GU ?_));go_ret;exact⟨rfl,Aa⟩
 have h1: ¬(n:Int)<1:=by omega
 have h2: ¬4<(n:Int):=by omega
 have h3: ¬need<1:=by omega
 have h4: ¬(n:Int)<need:=by omega
 have hf:R=KO l n:=by rw[hRe,decide_eq_true (show n≤4 by omega),decide_eq_true (show 1≤need by omega),decide_eq_true (show need≤(n:Int) by omega)];simp
 have HRE:=Lib.hid hf;clear h0 hf hRe;go_enter Tryz.func145,Tryz.ntmps145;go_wp2_with (first|(refine Bv 1 ?_;intro zk wzk _ _ _)|(refine Ct ?_)|(refine CG ?_)|(refine GU ?_));go_loopw [3] (fun kv wr=>∃k:Nat,k≤n∧kv= .int .i64 (k:Int)∧Hid (KO l k=true)∧Ag Ab w wr∧HB wr zk 30 #[.slice A n c, .int .i64 need]) (fun kv _=>n -(intOf kv).toNat)
 case atStart=>exact⟨0,Nat.zero_le _,rfl,Lib.hid rfl,Aa,inferInstance⟩
 case round=>
  obtain⟨k,hk,rfl,HA,_,_⟩:=hrel;by_cases hlt:k<n
  ·have hltI:(k:Int)<n:=by omega
   have hkl:k<l.length:=by omega
   go_wp2_with (first|(refine GU ?_));go_loopw [4] (fun jv wt=>∃j:Nat,j≤k∧jv= .int .i64 (j:Int)∧Hid (Ge l k j=true)∧Ag Ab w wt∧HB wt zk 30 #[.slice A n c, .int .i64 need]) (fun jv _=>k -(intOf jv).toNat)
   case atStart=>exact⟨0,Nat.zero_le _,rfl,Lib.hid rfl,Aa,inferInstance⟩
   case round=>
    obtain⟨j,hj,rfl,HJ,_,_⟩:=hrel;by_cases hjk:j<k
    ·have hjI:(j:Int)<k:=by omega
     have hjn:j<n:=by omega
     have hjl:j<l.length:=by omega
     by_cases he:AG l k=AG l j
     ·have hd:decide (AG l k=AG l j)=true:=decide_eq_true he;have HF:Hid (KO l n=false):=Lib.hid (KQ l k (by
       rcases hb:Ge l k k with _|_
       ·rfl
       exact absurd he ((KP l k k).1 hb j hjk)) n hlt)
      clear he;go_wp2_with fail;refine Ah (Ab) (by kernel_rfl) (fun wd _ _=> ?_);refine YS 0 ?_;refine WN 1 ?_;refine YS 2 ?_;refine Vj 3 ?_;refine Vk 4 23 ?_;refine YS 5 ?_;refine WN 6 ?_;refine YS 7 ?_;refine Vj 8 ?_;refine Vk 9 23 ?_;refine YS 10 ?_;refine Yd ?_;go_wp2_with fail;go_ret;refine⟨?_,Aa⟩;rw[HRE.out,HF.out];rfl
     have hd:decide (AG l k=AG l j)=false:=decide_eq_false he;have HJ2:Hid (Ge l k (j+1)=true):=Lib.hid (by rw[Ge,HJ.out,hd];rfl);clear he;go_wp2_with fail;refine Ah (Ab) (by kernel_rfl) (fun wd _ _=> ?_);refine YS 0 ?_;refine WN 1 ?_;refine YS 2 ?_;refine Vj 3 ?_;refine Vk 4 23 ?_;refine YS 5 ?_;refine WN 6 ?_;refine YS 7 ?_;refine Vj 8 ?_;refine Vk 9 23 ?_;refine YS 10 ?_;refine Yd ?_;go_wp2_with fail;exact⟨⟨j+1,by omega,by go_num,HJ2,Aa,inferInstance⟩,by simp[intOf];omega⟩
    have hjI: ¬(j:Int)<k:=by omega
    have hjk2:j=k:=by omega
    have HA2:Hid (KO l (k+1)=true):=Lib.hid (by
     have h9:=HJ.out;rw[hjk2] at h9;rw[KO,HA.out,h9];rfl)
    clear hjk2;go_wp2_with fail;exact⟨⟨k+1,by omega,by go_num,HA2,Aa,inferInstance⟩,by simp[intOf];omega⟩
  have hltI: ¬(k:Int)<n:=by omega
  have hkn:k=n:=by omega
  have HKN:=Lib.hid hkn;clear hkn;go_wp2_with (first|(refine GU ?_));go_ret;refine⟨?_,Aa⟩;rw[HRE.out,←HKN.out,HA.out];rfl
end Go.Proofs.YtjjhceeookpieaaGreat
end
section
set_option maxRecDepth 100000
set_option maxHeartbeats 3200000
open Go Go.RowKit Go.WideMaps
namespace Go.Proofs.YtjjhceeookpieaaGreat
def BC (m:List UInt8) (l:List AC) (ks:List Ak) (need:Int):Bool:=Nf ks need&&decide (need≤(((Gd m l ks ks.length).length :Nat):Int))
theorem EH {m:List UInt8} {nb cb n c nk ck:Nat} {M A K:Option Addr} {l:List AC} {ks:List Ak} (need:Int) {w:World} [hm:HR w M (bs m)] [hr:HR w A (cellsOf l)] [hK:HR w K (cellsOf ks)] (hM: ∀r∈l,CC w r) (hl:l.length=n) (hmax:n≤9223372036854775807) (hlm:m.length=nb) (hn:nb≤140737488351232) (hk:ks.length=nk) (hk9:nk≤10000):
    Calls Tryz.prog 77 #[.agg #[.slice M nb cb, .slice A n c], .agg #[.slice K nk ck, .int .i64 need]] w fun e w'=>e= .returned (.bool (BC m l ks need))∧Ag Ab w w':=by
 obtain⟨R,hR⟩: ∃R,R=BC m l ks need:=⟨_,rfl⟩;have hR2:=hR;rw[BC,hk] at hR2;rw[←hR];have HRR:=Lib.hid hR2;have HMI:=Lib.hid hM;have HM:=Lib.hid hlm;have HL:=Lib.hid hl;have HK:=Lib.hid hk;obtain⟨I,hI⟩: ∃I,I=Nf ks need:=⟨_,rfl⟩;have HI:=Lib.hid hI;clear hR hR2 hM hlm hl hk hI;cases I with
 |false=>
  have HF:Hid (R=false):=Lib.hid (by rw[HRR.out,←HI.out];rfl);go_enter Tryz.func77,Tryz.ntmps77;go_wp2_with (first|(refine Bv 2 ?_;intro ze wze _ _ _)|(refine Bv 3 ?_;intro zk wzk _ _ _));refine Ah (Ab) (by kernel_rfl) (fun wd _ _=> ?_);refine KW 0 ?_;refine Yg 1 fun K_ hK_=> ?_
  go_simp;refine(DU (l:=ks) need HK.out (by omega)).mono ?_;rw[←HI.out];rintro e w1 ⟨rfl,_⟩;refine Yz hK_ ?_;clear hK_ K_;refine YS 2 ?_;refine YU 3 ?_;refine YU 4 ?_;refine YU 5 ?_;refine YU 6 ?_;refine YU 7 ?_;refine YU 8 ?_;refine YU 9 ?_;refine YS 10 ?_;refine YS 11 ?_;refine Yd ?_;go_wp2_with fail;go_ret;refine⟨?_,Aa⟩;rw[HF.out];rfl
 |true=>
  have HT:Hid (R=decide (need≤(((Gd m l ks nk).length :Nat):Int))):=Lib.hid (by rw[HRR.out,←HI.out];rfl);go_enter Tryz.func77,Tryz.ntmps77;go_wp2_with (first|(refine Bv 2 ?_;intro ze wze _ _ _)|(refine Bv 3 ?_;intro zk wzk _ _ _));refine Ah (Ab) (by kernel_rfl) (fun wd _ _=> ?_);refine KW 0 ?_;refine Yg 1 fun K_ hK_=> ?_
  go_simp;refine(DU (l:=ks) need HK.out (by omega)).mono ?_;rw[←HI.out];rintro e w1 ⟨rfl,_⟩;refine Yz hK_ ?_;clear hK_ K_;refine YS 2 ?_;refine KW 3 ?_;refine KW 4 ?_;refine YS 7 ?_;refine WN 8 ?_;refine Yg 5 fun K_ hK_=> ?_
  go_simp;refine(VT (l:=l) (ks:=ks) need (fun r h=>CC.nw (HMI.out r h)) HL.out hmax HM.out hn HK.out hk9).mono ?_;rintro e w2 ⟨B,n',c',rfl,hlen,_,_⟩;have HLEN:=Lib.hid hlen;clear hlen;refine Yz hK_ ?_;clear hK_ K_;refine YS 6 ?_;refine YS 9 ?_;refine YS 10 ?_;refine YS 11 ?_;refine Yd ?_;go_wp2_with fail;go_ret;refine⟨?_,Aa⟩;rw[HT.out,HLEN.out];rfl
end Go.Proofs.YtjjhceeookpieaaGreat
end
section
section
open Go Go.RowKit
namespace Go.Proofs.YtjjhceeookpieaaGreat
instance Ahm:AL Tryz.prog 28:=⟨fun _=>by kernel_rfl,fun _=>by kernel_rfl⟩
end Go.Proofs.YtjjhceeookpieaaGreat
end
section
end
section
end
end
section
set_option maxRecDepth 100000
set_option maxHeartbeats 1600000
section
open Go Go.RowKit
namespace Go.Proofs.YtjjhceeookpieaaGreat
theorem Qg {A:Option Addr} {n c:Nat} {l:List Ak} {w:World} [hr:HR w A (cellsOf l)] (hl:l.length=n) (hc:n≤c) (hmax:n≤1000000000):
    Calls Tryz.prog 180 #[.slice A n c] w fun e w'=>e= .returned (.bool (KO l n))∧Ag Ab w w':=by
 obtain⟨R,hR⟩: ∃R,R=KO l n:=⟨_,rfl⟩;have HRE:=Lib.hid hR;rw[←hR];clear hR;go_enter Tryz.func180,Tryz.ntmps180;go_wp2_with fail;go_loopw [7] (fun kv wr=>∃k:Nat,k≤n∧kv= .int .i64 (k:Int)∧Hid (KO l k=true)∧Ag Ab w wr) (fun kv _=>n -(intOf kv).toNat)
 case atStart=>exact⟨0,Nat.zero_le _,rfl,Lib.hid rfl,Aa⟩
 case round=>
  obtain⟨k,hk,rfl,HA,_⟩:=hrel;by_cases hlt:k<n
  ·have hltI:(k:Int)<n:=by omega
   have hkl:k<l.length:=by omega
   have hkc:k≤c:=by omega
   have hmt:=RT l k hkl;have HTL:Hid ((l.take k).length =k):=Lib.hid (by rw[List.length_take];omega);by_cases hfr:Ge l k k=true
   ·have hnm:decide (AG l k∈l.take k)=false:=decide_eq_false (by rw[hmt,hfr];simp);have HNM:=Lib.hid hnm;have HA2:Hid (KO l (k+1)=true):=Lib.hid (by rw[KO,HA.out,hfr];rfl);clear hnm hmt hfr;go_wp2_with (first|(refine BB 4 ?_;intro zh wzh _ _ _)|(refine Bt ?_;intro ws _ _)|(refine WIH ?_)|(refine WLH 23 ?_));refine Ah (Ab) (by kernel_rfl) (fun wd _ _=> ?_);refine YS 0 ?_;refine YS 1 ?_;refine YSH 2 ?_;refine KW 3 ?_;refine Yg 4 fun K_ hK_=> ?_
    go_simp;refine(IW (l:=l.take k) (hr:=HR.takeR inferInstance k) (AG l k) HTL.out (by omega)).mono ?_;rw[HNM.out];rintro e w2 ⟨rfl,_⟩;refine Yz hK_ ?_;clear hK_ K_;refine Yd ?_;go_wp2_with fail;exact⟨⟨k+1,by omega,by go_num,HA2,Aa⟩,by simp[intOf];omega⟩
   have hnm:decide (AG l k∈l.take k)=true:=decide_eq_true (by rw[hmt];simpa using hfr);have HNM:=Lib.hid hnm;have HF:Hid (R=false):=Lib.hid (by rw[HRE.out];exact KQ l k (by simpa using hfr) n hlt);clear hnm hmt hfr;go_wp2_with (first|(refine BB 4 ?_;intro zh wzh _ _ _)|(refine Bt ?_;intro ws _ _)|(refine WIH ?_)|(refine WLH 23 ?_));refine Ah (Ab) (by kernel_rfl) (fun wd _ _=> ?_);refine YS 0 ?_;refine YS 1 ?_;refine YSH 2 ?_;refine KW 3 ?_;refine Yg 4 fun K_ hK_=> ?_
   go_simp;refine(IW (l:=l.take k) (hr:=HR.takeR inferInstance k) (AG l k) HTL.out (by omega)).mono ?_;rw[HNM.out];rintro e w2 ⟨rfl,_⟩;refine Yz hK_ ?_;clear hK_ K_;refine Yd ?_;go_wp2_with fail;go_ret;rw[HF.out];exact⟨rfl,Aa⟩
  have hltI: ¬(k:Int)<n:=by omega
  have hkn:k=n:=by omega
  have HKN:=Lib.hid hkn;clear hkn;go_wp2_with fail;go_ret;refine⟨?_,Aa⟩;rw[HRE.out,←HKN.out,HA.out];rfl
theorem Hx {A:Option Addr} {n c:Nat} {l:List Ak} (need:Int) {w:World} [hr:HR w A (cellsOf l)] (hl:l.length=n) (hc:n≤c) (hmax:n≤4398046511104):
    Calls Tryz.prog 113 #[.agg #[.slice A n c, .int .i64 need]] w fun e w'=>e= .returned (.bool (Nf l need))∧Ag Ab w w':=by
 obtain⟨R,hR⟩: ∃R,R=Nf l need:=⟨_,rfl⟩;have hRe:=hR;rw[Nf,hl] at hRe;rw[←hR];clear hR;by_cases h4:n≤4
 ·have e4:(n:Int)≤4:=by omega
  obtain⟨U,hU⟩: ∃U,U=KO l n:=⟨_,rfl⟩;rw[←hU] at hRe;rw[decide_eq_true h4,Bool.true_and] at hRe;have HU:=Lib.hid hU;clear hU;have hcase:(U=false∧R=false)∨(U=true∧¬1≤need∧R=false)∨(U=true∧1≤need∧R=decide (need≤(n:Int))):=by
   cases U
   ·exact .inl ⟨rfl,by rw[hRe];simp⟩
   by_cases h1:1≤need
   ·exact .inr (.inr ⟨rfl,h1,by rw[hRe];simp[h1]⟩)
   exact .inr (.inl ⟨rfl,h1,by rw[hRe];simp[h1]⟩)
  clear hRe;rcases hcase with⟨rfl,rfl⟩|⟨rfl,h1,rfl⟩|⟨rfl,h1,rfl⟩
  all_goals
   go_enter Tryz.func113,Tryz.ntmps113;go_wp2_with (first|(refine Ct ?_)|(refine Bv 1 ?_;intro zk wzk _ _ _)|(refine CG ?_)|(refine GU ?_));refine(Qg hl hc (by omega)).mono ?_;rw[←HU.out];rintro e w5 ⟨rfl,_⟩;go_wp2_with (first|go_skip|(refine Ct ?_)|(refine CG ?_)|(refine GU ?_));go_ret;exact⟨rfl,Aa⟩
 have e4: ¬(n:Int)≤4:=by omega
 have hf:R=false:=by rw[hRe,decide_eq_false h4];rfl
 rw[hf];clear hf hRe;go_enter Tryz.func113,Tryz.ntmps113;go_wp2_with (first|go_skip|(refine Bv 1 ?_;intro zk wzk _ _ _)|(refine GU ?_));go_ret;exact⟨rfl,Aa⟩
end Go.Proofs.YtjjhceeookpieaaGreat
end
section
end
end
section
open Go Go.RowKit
namespace Go.Proofs.YtjjhceeookpieaaGreat
structure KR where
 A:Option Addr
 n:Nat
 c:Nat
 l:List Ak
 need:Int
def KR.m (k:KR):List Ak×Int:=(k.l,k.need)
instance Aly:Af KR:=⟨2,fun k=>[.slice k.A k.n k.c, .int .i64 k.need],fun _=>rfl,fun k u hu=>by
 simp only[List.mem_cons,List.not_mem_nil,or_false] at hu;rcases hu with rfl|rfl<;>rfl,⟨none,0,0,[],0⟩⟩
structure BN (w:World) (k:KR):Prop where
 rd:Rd w k.A (cellsOf k.l)
 len:k.l.length=k.n
 cap:k.n≤k.c
 le:k.n≤1000
theorem BN.nw {w0 w:World} [n:Nw w0 w] {k:KR} (h:BN w0 k):BN w k:=⟨h.rd.chg n.out (fun _ _ _ h=>h),h.len,h.cap,h.le⟩
def Jw (A:Option Addr) (l:List Ak):Nat→Prop:=fun x=>cellsOf l≠[]∧An A x
theorem BN.chg {S:Nat→Prop} {w0 w:World} {k:KR} (h:BN w0 k) (hc:Au S w0 w) (hS: ∀x,Jw k.A k.l x→¬S x):BN w k:=⟨h.rd.chg hc (fun hne ad e hk=>hS _ ⟨hne,ad,e,rfl⟩ hk),h.len,h.cap,h.le⟩
theorem BN.low {w:World} {k:KR} (h:BN w k) (x:Nat) (hx:Jw k.A k.l x):x<w.heap.size:=by
 obtain⟨hne,ad,e,hk⟩:=hx;rw[←hk];exact DC h.rd hne e
instance Alz:Bm Tryz.prog 204 30 2 32 (.agg #[.slice none 0 0, .int .i64 0]):=⟨⟨Tryz.underlying204,by kernel_rfl,rfl,by decide⟩⟩
instance Ai8:Cl Tryz.prog 30 2:=⟨by kernel_rfl,_,Tryz.underlying30,rfl⟩
instance Ai9:Cl Tryz.prog 33 10:=⟨by kernel_rfl,_,Tryz.underlying33,rfl⟩
instance Ajr:AL Tryz.prog 204:=⟨fun _=>by kernel_rfl,fun _=>by kernel_rfl⟩
def BA (v e:Int) (K:List KR):List Value:= .int .i64 v:: .int .i64 e::cellsOf K
theorem BG (v e:Int) (K:List KR) (h:K.length=4):(BA v e K).toArray.size =10:=by
 show(BA v e K).length =10;have h1:=AB K;rw[h] at h1;have h2:(cellsOf K).length =8:=h1;simp[BA,h2]
theorem Bq (v e:Int) (K:List KR):(BA v e K).toArray.all (·.oneCell')=true:=by
 rw[Array.all_eq_true_iff_forall_mem];intro u hu;have hu':u∈BA v e K:=by simpa using hu
 rcases List.mem_cons.1 hu' with rfl|hu'
 ·rfl
 rcases List.mem_cons.1 hu' with rfl|hu'
 ·rfl
 exact GX K u hu'
def Ub:KR:=⟨none,0,0,[],0⟩
def DJ:List KR:=[Ub,Ub,Ub,Ub]
theorem Afd (w:World): ∀k∈DJ,BN w k:=by
 intro k hk;simp only[DJ,List.mem_cons,List.not_mem_nil,or_false] at hk;have:k=Ub:=by rcases hk with h|h|h|h<;>exact h
 subst this;exact⟨Rd.nil _ _,rfl,Nat.le_refl _,by decide⟩
instance Aia:Eb Tryz.prog 33 (BA 0 0 DJ).toArray :=⟨.agg (BA 0 0 DJ).toArray,fun _=>by kernel_rfl,rfl⟩
theorem Mp {w:World} {z:Nat} {v e0:Int} {K:List KR} {t:TypeId} (hb:HB w z t (BA v e0 K).toArray):HR w (some ⟨z,2,none⟩) (cellsOf K):=⟨by
 have h1:Rd w (some ⟨z,0,none⟩) (BA v e0 K):=fun k u hk=>by
  refine⟨_,rfl, ?_⟩;rw[DQ,hb.out.cell k];simpa using hk
 have h2:=h1.drop 2;simpa[Addr.add,BA] using h2⟩
section
variable {P:Program} {ops:Array Oper} {rest:List Oper} {a:Act} {w:World} {Q:Exit→Act→World→Prop} {dst:Option Tmp} {ty:TypeId} {pos:String} {after:Array Edge} {gd:Option (Nat×Bool)}
theorem ON {t e:TypeId} {x:Operand} {g k m:Nat} (hx:a.eval x= .pointer (some ⟨g,k,none⟩)) (hu:P.underlying t=some (.array m e)) (hs:(P.info? e).map (·.size)=some 2):
    (execOp a.eval ⟨dst, .slice t x none none none,ty,pos,after,gd⟩).run P w= .ok (.value (.slice (some ⟨g,k,none⟩) m m)) w:=by
 show((Instr.sliceAt t (a.eval x) none none none)>>=fun v=>pure (Next.value v)).run P w=_;rw[hx];cases hq:P.info? e with
 |none=>rw[hq] at hs;simp at hs
 |some j=>
  rw[hq] at hs;simp at hs;simp[Instr.sliceAt,run_underlying hu,Instr.sureAddr,Instr.sliceBounds,sizeOf,typeInfo,hq,Be]
theorem Uc {t e:TypeId} {x:Operand} {g k m:Nat} (hx:a.eval x= .pointer (some ⟨g,k,none⟩)) (hu:P.underlying t=some (.array m e)) (hs:(P.info? e).map (·.size)=some 2)
    (h:wpList P ops Q rest (a.put dst (.slice (some ⟨g,k,none⟩) m m)) w):wpList P ops Q (⟨dst, .slice t x none none none,ty,pos,after,none⟩::rest) a w:=Av rfl (ON hx hu hs) h
end
def AF (w:World) (ys:List UInt8) (U:Nat→Prop):Ending→World→Prop:=fun e w'=>∃f caps T,e= .returned (.func (.func f) #[] caps)∧Ag Ab w w'∧EV w' T (.func (.func f) #[] caps) ys∧∀x,T x→w.heap.size≤x∨U x
end Go.Proofs.YtjjhceeookpieaaGreat
end
section
open Go Go.RowKit
namespace Go.Proofs.YtjjhceeookpieaaGreat
section
variable {P:Program} {ops:Array Oper} {rest:List Oper} {a:Act} {w:World} {Q:Exit→Act→World→Prop} {dst:Option Tmp} {ty:TypeId} {pos:String} {after:Array Edge} {gd:Option (Nat×Bool)}
theorem Wh {t e:TypeId} {x ix:Operand} {g k m:Nat} {i:Nat} (hx:a.eval x= .pointer (some ⟨g,k,none⟩)) (hi:a.eval ix= .int .i64 (i:Int)) (hu:P.underlying t=some (.array m e)) (hs:(P.info? e).map (·.size)=some 2) (h1:i<m):
    (execOp a.eval ⟨dst, .indexAddr t x ix,ty,pos,after,gd⟩).run P w= .ok (.value (.pointer (some ⟨g,k+i*2,none⟩))) w:=by
 show((Instr.indexAt t (a.eval x) (a.eval ix))>>=fun v=>pure (Next.value v)).run P w=_;rw[hx,hi];cases hq:P.info? e with
 |none=>rw[hq] at hs;simp at hs
 |some j=>
  rw[hq] at hs;simp at hs;have h2:(i:Int)<m:=by omega
  simp[Instr.indexAt,asIntOf,run_underlying hu,sizeOf,typeInfo,hq,hs,h1,Instr.sureAddr,Addr.add]
theorem CD {t e:TypeId} {x ix:Operand} {g k m:Nat} {i:Nat} (hx:a.eval x= .pointer (some ⟨g,k,none⟩)) (hi:a.eval ix= .int .i64 (i:Int)) (hu:P.underlying t=some (.array m e)) (hs:(P.info? e).map (·.size)=some 2) (h1:i<m)
    (h:wpList P ops Q rest (a.put dst (.pointer (some ⟨g,k+i*2,none⟩))) w):wpList P ops Q (⟨dst, .indexAddr t x ix,ty,pos,after,none⟩::rest) a w:=Av rfl (Wh hx hi hu hs h1) h
theorem Ze {t:TypeId} {x:Operand} {g i:Nat} (hx:a.eval x= .pointer (some ⟨g,2+i*2,none⟩)) {tb:TypeId} {v e:Int} {K:List KR} (hb:HB w g tb (BA v e K).toArray) (ht:Cl P t 2) (hk:i<K.length):
    (execOp a.eval ⟨dst, .load t x,ty,pos,after,gd⟩).run P w= .ok (.value (.agg (Af.enc (gt K i)).toArray)) w:=by
 have e:a.eval x=AN (some ⟨g,2,none⟩) (i*2):=by
  rw[hx];simp[AN,DD,Addr.add]
 show((Instr.loadAt t (a.eval x))>>=fun v=>pure (Next.value v)).run P w=_;rw[e,Sem.run_bind,CU (k:=i*2) (cs:=Af.enc (gt K i)) (Mp hb).out ht rfl (Da K i hk) (by decide)];rfl
theorem Ex {t:TypeId} {x:Operand} {g i:Nat} (hx:a.eval x= .pointer (some ⟨g,2+i*2,none⟩)) {tb:TypeId} {v e:Int} {K:List KR} (hb:HB w g tb (BA v e K).toArray) (ht:Cl P t 2) (hk:i<K.length)
    (h:wpList P ops Q rest (a.put dst (.agg (Af.enc (gt K i)).toArray)) w):wpList P ops Q (⟨dst, .load t x,ty,pos,after,none⟩::rest) a w:=Av rfl (Ze hx hb ht hk) h
theorem Jx {t:TypeId} {x y:Operand} {g i:Nat} {k:KR} (hx:a.eval x= .pointer (some ⟨g,2+i*2,none⟩)) (hy:a.eval y= .agg (Af.enc k).toArray) {tb:TypeId} {v e:Int} {K:List KR} (hb:HB w g tb (BA v e K).toArray) (ht:Cl P t 2) (hk:i<K.length)
    (h: ∀w',Ag (only g) w w'→HB w' g tb (BA v e (K.set i k)).toArray →wpList P ops Q rest (a.put dst undef) w'):wpList P ops Q (⟨dst, .store t x y,ty,pos,after,none⟩::rest) a w:=by
 have hsz:(BA v e K).length =2+2*K.length:=by
  simp[BA,AB,show Af.size KR=2 from rfl];omega
 have h1:(cellsOf K).take (i*2)++Af.enc k++(cellsOf K).drop (i*2+2)=cellsOf (K.set i k):=FM K i k hk;refine Ce hx hy hb ht rfl (by decide) (by rw[List.size_toArray,hsz];omega) (by rw[Array.all_eq_true_iff_forall_mem];intro u hu;exact Af.one k u (by simpa using hu)) (cs':=(BA v e (K.set i k)).toArray) ?_ h;show(BA v e K).take (2+i*2)++(Af.enc k)++(BA v e K).drop (2+i*2+2)=BA v e (K.set i k);rw[BA,BA,←h1,show 2+i*2=(i*2+1)+1 by omega,show i*2+1+1+2=(i*2+2+1)+1 by omega];simp
end
def DV (w0 w:World) (K:List KR):Prop:=∀k∈K,BN w k∧Aj w0 k.A
theorem DV.chg {S:Nat→Prop} {w0 w w':World} {K:List KR} (h:DV w0 w K) (hc:Au S w w') (hS: ∀x,S x→x<w0.heap.size):DV w0 w' K:=fun k hk=>⟨(h k hk).1.chg hc (fun x ⟨_,ad,e,hx⟩ hs=>by
 have:=(h k hk).2.out ad e;have:=hS x hs;omega),(h k hk).2⟩
theorem DV.set {w0 w:World} {K:List KR} (h:DV w0 w K) (i:Nat) {k:KR} (h1:BN w k) (h2:Aj w0 k.A):DV w0 w (K.set i k):=fun x hx=>by
 rcases List.mem_or_eq_of_mem_set hx with h3|rfl
 ·exact h x h3
 exact⟨h1,h2⟩
theorem DV.none (w0 w:World):DV w0 w DJ:=fun k hk=>by
 refine⟨Afd w k hk, ?_⟩;simp only[DJ,List.mem_cons,List.not_mem_nil,or_false] at hk;have:k=Ub:=by rcases hk with h|h|h|h<;>exact h
 subst this;exact⟨fun ad e=>by cases e⟩
theorem DV.first {w0 w1 w:World} {K:List KR} (h:DV w1 w K) (hs:w0.heap.size≤w1.heap.size):DV w0 w K:=fun k hk=>⟨(h k hk).1,⟨fun ad e=>Nat.le_trans hs ((h k hk).2.out ad e)⟩⟩
theorem Se {α β:Type} (f:α→β) (K:List α) (i:Nat) (x:α) (h:i<K.length):((K.set i x).take (i+1)).map f=(K.take i).map f++[f x]:=by
 rw[List.take_add_one,List.map_append]
 congr 1
 ·rw[List.take_set_of_le (Nat.le_refl _)]
 simp[h]
end Go.Proofs.YtjjhceeookpieaaGreat
end
section
open Go Go.RowKit
namespace Go.Proofs.YtjjhceeookpieaaGreat
section
variable {P:Program} {a:Act} {w:World} {dst:Option Tmp} {ty:TypeId} {pos:String} {after:Array Edge} {gd:Option (Nat×Bool)}
end
def Ao8 (K:List KR):Nat:=(K.map (·.n)).sum
end Go.Proofs.YtjjhceeookpieaaGreat
end
section
set_option maxRecDepth 100000
open Go Go.RowKit
namespace Go.Proofs.YtjjhceeookpieaaGreat
def FT (h:Ak):AC:=⟨h,0,none,0,[],none,0,[]⟩
theorem OB (r:AC):Af.enc r=bs r.key.l++[.int .i64 r.leaf, .slice r.A r.l.length r.c, .slice r.B r.p.length r.k]:=rfl
theorem YM (h:Ak):GH 0 (Aw h.l) (Af.enc (FT Aq)).toArray =(Af.enc (FT h)).toArray :=by
 apply Array.ext';have e:(Af.enc (FT Aq)).drop 32=[.int .i64 0, .slice none 0 0, .slice none 0 0]:=by
  rw[OB,List.drop_left' (by rw[Am];exact Aq.len)];rfl
 rw[GH];simp[Dk,e];rfl
theorem YN (r:AC):GH 32 #[.int .i64 r.leaf, .slice r.A r.l.length r.c, .slice r.B r.p.length r.k] (Af.enc (FT r.key)).toArray =(Af.enc r).toArray :=by
 apply Array.ext';have e:(Af.enc (FT r.key)).take 32=bs r.key.l:=by
  rw[OB,List.take_left' (by rw[Am];exact r.key.len)];rfl
 have e2:(Af.enc (FT r.key)).length =35:=Af.len _;show(Af.enc (FT r.key)).take 32++[.int .i64 r.leaf, .slice r.A r.l.length r.c, .slice r.B r.p.length r.k]++(Af.enc (FT r.key)).drop (32+3)=Af.enc r;rw[e,List.drop_of_length_le (by rw[e2];decide),OB,List.append_nil]
theorem Aaw (r:AC) (w:World):(Instr.build 139 #[(0, .agg (Aw r.key.l)),(1, .agg #[.int .i64 r.leaf, .slice r.A r.l.length r.c, .slice r.B r.p.length r.k])]).run Tryz.prog w= .ok (.agg (Af.enc r).toArray) w:=by
 refine Cu Tryz.underlying139 (zv:= .agg (Af.enc (FT Aq)).toArray) (fun _=>by kernel_rfl) (places:=#[(0,32),(32,3)]) (fun _=>by kernel_rfl) ?_ w;have h1: ∀q:AC,(Af.enc q).toArray.size =35:=fun q=>Af.len q
 show Instr.fill _ (Af.enc (FT Aq)).toArray [(0, .agg (Aw r.key.l)),(1, .agg #[.int .i64 r.leaf, .slice r.A r.l.length r.c, .slice r.B r.p.length r.k])]=_;rw[AZ _ _ 0 _ _ (off:=0) (size:=32) rfl (by show(Aw r.key.l).size =32;exact r.key.size) (by rw[h1];decide)];rw[show GH 0 (Value.agg (Aw r.key.l)).cells (Af.enc (FT Aq)).toArray =(Af.enc (FT r.key)).toArray from YM r.key];rw[AZ _ _ 1 _ _ (off:=32) (size:=3) rfl rfl (by rw[h1];decide)];rw[show GH 32 (Value.agg #[Value.int .i64 r.leaf, .slice r.A r.l.length r.c, .slice r.B r.p.length r.k]).cells (Af.enc (FT r.key)).toArray =(Af.enc r).toArray from YN r];rfl
theorem Aax (r:AC) (w:World):(Instr.buildSlice 56 1 #[(0, .agg (Af.enc r).toArray)]).run Tryz.prog w= .ok (.slice (some ⟨w.heap.size,0,none⟩) 1 1) (w.alloc (.cells (Af.enc r).toArray 139)):=by
 have hs:(Af.enc r).toArray.size =35:=Af.len r;have hz: ∀w,(zeroValue 139).run Tryz.prog w= .ok (.agg (Af.enc (FT Aq)).toArray) w:=fun _=>by kernel_rfl
 have hi: ∀w,(sizeOf 139).run Tryz.prog w= .ok 35 w:=fun _=>by kernel_rfl
 have hz1:(Af.enc (FT Aq)).toArray.size =35:=Af.len (FT Aq);obtain⟨Z,hZ⟩: ∃Z:Array Value,Z=(Af.enc (FT Aq)).toArray :=⟨_,rfl⟩;obtain⟨R,hR⟩: ∃R:Array Value,R=(Af.enc r).toArray :=⟨_,rfl⟩;rw[←hZ] at hz hz1;rw[←hR] at hs⊢;clear hZ hR;unfold Instr.buildSlice;simp only[Sem.run_bind,run_underlying Tryz.underlying56,Result.andThen_ok,hi];have hf:Instr.fill (fun i=>some (i*35,35)) ((Array.range (1*35)).map (Z[·%Z.size]!)) [(0,Value.agg R)]=some R:=by
  rw[AZ _ _ 0 (.agg R) [] (off:=0) (size:=35) rfl hs (by simp),JN _ _ (by show R.size=_;rw[hs];simp)];rfl
 simp[hz,Value.cells,hf,newRow]
end Go.Proofs.YtjjhceeookpieaaGreat
end
