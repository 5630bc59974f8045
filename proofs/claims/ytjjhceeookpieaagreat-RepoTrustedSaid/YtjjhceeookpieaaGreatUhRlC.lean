/- UhRlC, UhRlM, UhRlD, UhRlK -/
import Derived.Test.YtjjhceeookpieaaGreatUhZ
import Derived.Test.YtjjhceeookpieaaGreatUhRlB
import Derived.ArgAppend
import Derived.Test.YtjjhceeookpieaaGreatUhRlG
import Derived.Test.YtjjhceeookpieaaGreatUhRsF
section
set_option maxRecDepth 100000
set_option maxHeartbeats 3200000
open Go Go.RowKit
namespace Go.Proofs.YtjjhceeookpieaaGreat
def Ke (L:List Ad) (k:Nat):List Ad:=L.take k++L.drop (k+1)
section
variable {P:Program} {ops:Array Oper} {rest:List Oper} {a:Act} {w:World} {Q:Exit→Act→World→Prop} {dst:Option Tmp} {ty:TypeId} {pos:String} {after:Array Edge}
theorem VW {t e:TypeId} {size bytes:Nat} {z:Value} {x y y2 y3:Operand} {A:Option Addr} {n c k m q:Nat} (hx:a.eval x= .slice A n c) (hy:a.eval y= .int .i64 (k:Int)) (hy2:a.eval y2= .int .i64 (m:Int)) (hy3:a.eval y3= .int .i64 (q:Int)) (E:Bm P t e size bytes z) (hk:k≤m) (hm:m≤q) (hq:q≤c)
    (h: ∀v,wpList P ops Q rest (a.put dst v) w):wpList P ops Q (⟨dst, .slice t x (some y) (some y2) (some y3),ty,pos,after,none⟩::rest) a w:=by
 obtain⟨ti,hti,hz,hs,hb⟩:=info_parts E.out.info;refine Av rfl (v:= .slice (Gs A k q size) (m -k) (q -k)) ?_ (h _);show((Instr.sliceAt t (a.eval x) (some (a.eval y)) (some (a.eval y2)) (some (a.eval y3)))>>=fun v=>pure (Next.value v)).run P w=_;rw[hx,hy,hy2,hy3,Sem.run_bind];simp[Instr.sliceAt,Instr.slice,run_underlying E.out.under,Instr.sliceBounds,Instr.sliceBound,asIntOf,sizeOf,typeInfo,hti,hs,hk,hm,hq,Gs,DD]
end
section
variable {ops:Array Oper} {rest:List Oper} {a:Act} {w:World} {Q:Exit→Act→World→Prop} {dst:Option Tmp} {ty:TypeId} {pos:String} {after:Array Edge}
theorem PM {s x:Operand} {A S:Option Addr} {n c k m p c2:Nat} {L news:List Ad} (hs:a.eval s= .slice A k c) (hx:a.eval x= .slice S m c2) (ho:HO w 44 37 A n c (cellsOf L)) (hr:HR w S (cellsOf news)) (hl:L.length=n) (hn:news.length=m) (hk:k+m≤n) (hp:k+m=p)
    (h: ∀w',Ag (An A) w w'→HO w' 44 37 A n c (cellsOf (L.take k++news++L.drop p))→wpList Tryz.prog ops Q rest (a.put dst (.slice A p c)) w'):
    wpList Tryz.prog ops Q (⟨dst, .call {callee:= .builtin .append,args:=#[s,x],argTypes:=#[63,63]},ty,pos,after,none⟩::rest) a w:=by
 subst hp;have hcap:=CN ho.out;rcases Nat.eq_zero_or_pos m with h0|h0
 ·subst h0;have e:news=[]:=List.eq_nil_of_length_eq_zero hn;subst e;have h9:=h w ⟨Au.refl _ _⟩ (by rw[List.append_nil,Nat.add_zero,List.take_append_drop];exact ho);exact Av rfl (by
   simp only[execOp,resolve,invoke,builtin,Sem.run_bind,Sem.run_pure,Result.andThen_ok,List.map_toArray,List.map_cons,List.map_nil,hs,hx,PX A S k c c2 _ (show k≤c by omega)];rfl) h9
 have E:Bm Tryz.prog 63 44 37 _ _:=inferInstance;obtain⟨ti,hti,hz,hsz,hb⟩:=info_parts E.out.info;have hcl:(cellsOf news).length =m*37:=by rw[AB,hn];rfl
 have hLl:(cellsOf L).length =n*37:=by rw[AB,hl];rfl
 obtain⟨g,rfl,q1,q2,q3⟩:=CP ho.out (k:=k*37) (m:=m*37) hcl (by rw[hLl,←Nat.add_mul];exact Nat.mul_le_mul_right _ hk) (by omega);obtain⟨ad,rfl,_⟩:=hr.out.lt (by omega);have hrun:=run_append_room_cells (P:=Tryz.prog) (w:=w) 63 ty 44 ti E.out.under hti g 0 k c ad m c2 (cellsOf news) (by rw[hcl,hsz]) (fun j u hj=>by
  obtain⟨ad',e,h⟩:=hr.out j u hj;have e':=Option.some.inj e;rw[e'];exact h) (GX _) (by omega) (fun j hj=>by rw[hsz,Nat.zero_add];exact(q1 j (by omega)).1) (fun j hj=>by rw[hsz,Nat.zero_add];exact(q1 j (by omega)).2)
 rw[hsz,Nat.zero_add] at hrun;have e9:(cellsOf L).take (k*37)++cellsOf news++(cellsOf L).drop (k*37+m*37)=cellsOf (L.take k++news++L.drop (k+m)):=by
  rw[Er,Er,show k*37+m*37=(k+m)*37 by omega];rw[show(cellsOf L).take (k*37)=cellsOf (L.take k) from EF L k,show(cellsOf L).drop ((k+m)*37)=cellsOf (L.drop (k+m)) from Gr L (k+m)]
 rw[e9] at q2;exact Av rfl (by
  simp only[execOp,resolve,invoke,builtin,Sem.run_bind,Sem.run_pure,Result.andThen_ok,List.map_toArray,List.map_cons,List.map_nil,hs,hx,hrun]) (h _ ⟨q3⟩ ⟨q2⟩)
theorem VX {x:Operand} {A:Option Addr} {c k q len:Nat} {L:List Ad} (hx:a.eval x= .slice (Gs A k c 37) len q) (hlen:len=1) (ho:HO w 44 37 A (k+1) c (cellsOf L)) (hl:L.length=k+1) (h: ∀w',Ag (An A) w w'→HO w' 44 37 A k c (cellsOf (L.take k))→wpList Tryz.prog ops Q rest (a.put dst (.tuple #[])) w'):
    wpList Tryz.prog ops Q (⟨dst, .call {callee:= .builtin .clear,args:=#[x],argTypes:=#[63]},ty,pos,after,none⟩::rest) a w:=by
 subst hlen;have hcap:=CN ho.out;have hLl:(cellsOf L).length =(k+1)*37:=by rw[AB,hl];rfl
 obtain⟨g,rfl,q1,q2,q3⟩:=CP ho.out (k:=k*37) (cs:=BZ.toList) (m:=37) rfl (by rw[hLl];omega) (by decide);rw[KS _ k c 37 (by omega),Dp,DQ] at hx;have h9:=h _ ⟨q3⟩ ⟨by
  have h1:=q2.cutTo (Nat.le_succ k);have htl:((cellsOf L).take (k*37)).length =k*37:=by rw[List.length_take,hLl];omega
  rw[List.append_assoc,List.take_left' htl,show(cellsOf L).take (k*37)=cellsOf (L.take k) from EF L k] at h1;exact h1⟩
 exact Av rfl (by
  simp only[execOp,resolve,invoke,builtin,Sem.run_bind,Sem.run_pure,Result.andThen_ok,List.map_toArray,List.map_cons,List.map_nil,hx,Wq g (k*37) q _ w q1]) h9
end
theorem VY {A:Option Addr} {p c k:Nat} {L:List Ad} {w:World} [ho:HO w 44 37 A (p+1) c (cellsOf L)] (hl:L.length=p+1) (hk:k≤p) (_:p≤1000000):
    Calls Tryz.prog 26 #[.slice A (p+1) c, .int .i64 (k:Int), .int .i64 ((k:Int)+1)] w fun e w'=>e= .returned (.slice A p c)∧Ag (An A) w w'∧HO w' 44 37 A p c (cellsOf (Ke L k)):=by
 have hc:=CN ho.out;have hkc:k≤c:=by omega
 have hk1:k+1≤p+1:=by omega
 have hpc:p+1≤c:=hc;have hrc:HR w (Gs A (k+1) c 37) (cellsOf (L.drop (k+1))):=(⟨ho.out.rd⟩:HR w A (cellsOf L)).cutR hl hc (k+1) 37 rfl;have hdl:(L.drop (k+1)).length =p+1 -(k+1):=by rw[List.length_drop,hl]
 have hkm:k+(p+1 -(k+1))≤p+1:=by omega
 have hkp:k+(p+1 -(k+1))=p:=by omega
 have hdl2:(L.drop (k+1)).length =p -k:=by rw[hdl];omega
 have hkm2:k+(p -k)≤p+1:=by omega
 have hkp2:k+(p -k)=p:=by omega
 have hne: ¬(k:Int)=(k:Int)+1:=by omega
 have HNE:Hid (((k:Int)==(k:Int)+1)=false):=Lib.hid (by simpa using hne);have hppI:(p:Int)+1≤(p:Int)+1:=Int.le_refl _;have hp1:p≤p+1:=Nat.le_succ p;go_enter Tryz.func26,Tryz.ntmps26;go_wp2_with (first|((with_reducible apply(VW (k:=k) (m:=k+1) (q:=p+1)));exact rfl;exact rfl;exact rfl;exact rfl;infer_instance;exact Nat.le_succ k;exact hk1;exact hpc;intro vv));refine Ah ((An A)) (by kernel_rfl) (fun wd _ _=> ?_);refine YS 0 ?_;refine YS 1 ?_;refine' tk 2 _ rfl (by kernel_rfl) (by kernel_rfl) (by kernel_rfl) (fun _ _ _ h=>h) (yo (by rfl) fun w' _=> ?_) inferInstance ?_;rotate_left
 ·((apply(Rs (m:=k)));exact rfl;exact rfl;infer_instance;exact hkc)
 try simp only[Act.put,sA,sB,sC]
 refine YS 3 ?_;refine YS 4 ?_;refine' tk 5 _ rfl (by kernel_rfl) (by kernel_rfl) (by kernel_rfl) (fun _ _ _ h=>h) (yo (by rfl) fun w' _=> ?_) inferInstance ?_;rotate_left
 ·((apply(Rt (k:=k+1)));exact rfl;exact rfl;infer_instance;exact hk1)
 try simp only[Act.put,sA,sB,sC]
 refine Yh 6 fun K_ hK_=> ?_
 (first|((with_reducible apply(PM (p:=p) (news:=L.drop (k+1))));exact rfl;exact rfl;infer_instance;infer_instance;exact hl;(first|exact hdl|exact hdl2);(first|exact hkm|exact hkm2);(first|exact hkp|exact hkp2);intro w5 st5 ho5)|(refine NO ?_;intro A' c' wa _ _ _ hcap)|(refine XF ?_;intro A' c' wa _ _ _ hcap)|(refine WAR Ad ?_;intro A' c' wa _ _ _ hcap))
 refine Yn hK_ ?_;clear hK_ K_;refine YS 7 ?_;refine Yd ?_;have hl5:(L.take k++L.drop (k+1)++L.drop p).length =p+1:=by
  rw[List.length_append,List.length_append,List.length_take,List.length_drop,List.length_drop,hl];omega
 have htk:(L.take k++L.drop (k+1)++L.drop p).take p=Ke L k:=by
  rw[List.take_left']
  ·rfl
  rw[List.length_append,List.length_take,List.length_drop,hl];omega
 go_wp2_with (first|((with_reducible apply(XM (k:=p) (m:=p+1)));exact rfl;exact rfl;exact rfl;infer_instance;exact Nat.le_succ p;exact hpc)|((with_reducible apply(VX (A:=A) (k:=p)));exact rfl;(omega);exact ho5;exact hl5;intro wz _ hoz));go_ret;rw[htk] at hoz;exact⟨rfl,FA,hoz⟩
end Go.Proofs.YtjjhceeookpieaaGreat
end
section
open Go Go.RowKit
namespace Go.Proofs.YtjjhceeookpieaaGreat
theorem Hs: ∀a b:List UInt8,Op.bytesLess a b=false→a=b∨Op.bytesLess b a=true
 |[],[],_=> .inl rfl
 |[],_::_,h=>by simp[Op.bytesLess] at h
 |_::_,[],_=> .inr rfl
 |a::x,b::y,h=>by
  rw[Op.bytesLess,Bool.or_eq_false_iff] at h;rw[Op.bytesLess,Bool.or_eq_true];have h1: ¬a<b:=by simpa using h.1
  by_cases e:a=b
  ·subst e;have h2:Op.bytesLess x y=false:=by simpa using h.2
   rcases Hs x y h2 with h3|h3
   ·exact .inl (by rw[h3])
   exact .inr (.inr (by simp[h3]))
  right;left;have h2:a.toNat≠b.toNat:=fun h=>e (UInt8.toNat_inj.1 h)
  have h3: ¬a.toNat<b.toNat:=fun h=>h1 (UInt8.lt_iff_toNat_lt.2 h)
  exact decide_eq_true (UInt8.lt_iff_toNat_lt.2 (by omega))
theorem Ab2 (a b:Ad) (h:DK a b=false):Ht a b∨DK b a=true:=by
 unfold DK at*;rw[Bool.or_eq_false_iff] at h;rcases Hs _ _ h.1 with h1|h1
 ·have h2:Op.bytesLess a.ecu b.ecu=false:=by simpa[h1] using h.2
  rcases Hs _ _ h2 with h3|h3
  ·exact .inl ⟨h1,h3⟩
  exact .inr (by simp[h1,h3])
 exact .inr (by simp[h1])
theorem OJ {a b:Ad} (h:Ht a b) (c:Ad):DK a c=DK b c:=by unfold DK;rw[h.1,h.2]
theorem OK {a b:Ad} (h:Ht a b) (c:Ad):DK c a=DK c b:=by unfold DK;rw[h.1,h.2]
theorem TW (t:Ad):Ht (GK t.l t.ecu) t:=⟨rfl,rfl⟩
theorem NG (T:List Ad) (x:Ad) (k:Nat):Ui T x k=true↔k<T.length∧Ht (gt T k) x:=by
 unfold Ui Ht;simp only[Bool.and_eq_true,decide_eq_true_eq]
theorem Agd {T:List Ad} {x:Ad} {k:Nat} (h:Ui T x k=false) (hk:k<T.length): ¬Ht (gt T k) x:=fun h2=>by
 rw[(NG T x k).2 ⟨hk,h2⟩] at h;cases h
theorem YT {T:List Ad} (h:Fn T) {x:Ad} {k:Nat} (hp:LE T x k) (hin:Ui T x k=false): ∀i,k≤i→i<T.length→DK x (gt T i)=true:=by
 intro i h1 h2;have hk:k<T.length:=by omega
 have h3:DK x (gt T k)=true:=by
  rcases Ab2 _ _ (hp.2.2 k (Nat.le_refl _) hk) with h4|h4
  ·exact absurd h4 (Agd hin hk)
  exact h4
 by_cases e:i=k
 ·subst e;exact h3
 exact II _ _ _ h3 (h k i (by omega) h2)
theorem OL {T:List Ad} (h:Fn T) (x:Ad): ∃k,LE T x k:=by
 have key: ∀n,n≤T.length→∃k,k≤n∧(∀i,i<k→DK (gt T i) x=true)∧(∀i,k≤i→i<n→DK (gt T i) x=false):=by
  intro n
  induction n with
  |zero=>exact fun _=>⟨0,Nat.le_refl _,fun i h=>absurd h (Nat.not_lt_zero _),fun i _ h=>absurd h (Nat.not_lt_zero _)⟩
  |succ n ih=>
   intro hn;obtain⟨k,h1,h2,h3⟩:=ih (by omega);by_cases hkn:k=n
   ·subst hkn;cases hb:DK (gt T k) x
    ·refine⟨k,by omega,h2,fun i q1 q2=> ?_⟩;obtain rfl:i=k:=by omega
     exact hb
    refine⟨k+1,Nat.le_refl _,fun i q=> ?_,fun i q1 q2=>by omega⟩;by_cases e:i=k
    ·subst e;exact hb
    exact h2 i (by omega)
   refine⟨k,by omega,h2,fun i q1 q2=> ?_⟩;by_cases e:i=n
   ·subst e;cases hb:DK (gt T i) x
    ·rfl
    have h4:=II _ _ _ (h k i (by omega) (by omega)) hb;rw[h3 k (Nat.le_refl _) (by omega)] at h4;exact absurd h4 (by decide)
   exact h3 i q1 (by omega)
 obtain⟨k,h1,h2,h3⟩:=key T.length (Nat.le_refl _);exact⟨k,h1,h2,h3⟩
theorem Wb {T:List Ad} {x:Ad} {j k:Nat} (h1:LE T x j) (h2:LE T x k):j=k:=by
 rcases Nat.lt_trichotomy j k with h|h|h
 ·have a:=h2.2.1 j h;rw[h1.2.2 j (Nat.le_refl _) (by have:=h2.1;omega)] at a;cases a
 ·exact h
 have a:=h1.2.1 k h;rw[h2.2.2 k (Nat.le_refl _) (by have:=h1.1;omega)] at a;cases a
theorem gt_get? (T:List Ad) (i:Nat):gt T i=(T[i]?).getD Af.zero:=by unfold gt;exact List.getD_eq_getElem?_getD ..
theorem JW {T:List Ad} {k i:Nat} (t:Ad) (hk:k≤T.length) (h:i<k):gt (Ik T k t) i=gt T i:=by
 rw[gt_get?,gt_get?,Ik,List.getElem?_append_left (by rw[List.length_take];omega),List.getElem?_take,if_pos h]
theorem QO {T:List Ad} {k:Nat} (t:Ad) (hk:k≤T.length):gt (Ik T k t) k=t:=by
 have hl:(T.take k).length =k:=by rw[List.length_take];omega
 rw[gt_get?,Ik,List.getElem?_append_right (by rw[hl];exact Nat.le_refl _),hl,Nat.sub_self];rfl
theorem QP {T:List Ad} {k i:Nat} (t:Ad) (hk:k≤T.length) (h:k≤i):gt (Ik T k t) (i+1)=gt T i:=by
 have hl:(T.take k).length =k:=by rw[List.length_take];omega
 rw[gt_get?,gt_get?,Ik,List.getElem?_append_right (by rw[hl];omega),hl,show i+1 -k=(i -k)+1 by omega,List.getElem?_cons_succ,List.getElem?_drop,show k+(i -k)=i by omega]
theorem YV {T:List Ad} (h:Fn T) {t:Ad} {k:Nat} (hp:LE T (GK t.l t.ecu) k) (hin:Ui T (GK t.l t.ecu) k=false):Fn (Ik T k t):=by
 have hk:=hp.1;have hab:=YT h hp hin;intro i j hij hj;rw[NF _ _ _ hk] at hj;have lo: ∀i,i<k→DK (gt T i) t=true:=fun i q=>by rw[←OK (TW t)];exact hp.2.1 i q
 have hi: ∀i,k≤i→i<T.length→DK t (gt T i)=true:=fun i q1 q2=>by rw[←OJ (TW t)];exact hab i q1 q2
 rcases Nat.lt_trichotomy j k with c|c|c
 ·rw[JW t hk (by omega),JW t hk c];exact h i j hij (by omega)
 ·subst c;rw[JW t hk hij,QO t hk];exact lo i hij
 obtain⟨j,rfl⟩: ∃q,j=q+1:=⟨j -1,by omega⟩;rw[QP t hk (by omega)];rcases Nat.lt_trichotomy i k with c2|c2|c2
 ·rw[JW t hk c2];exact h i j (by omega) (by omega)
 ·subst c2;rw[QO t hk];exact hi j (by omega) (by omega)
 obtain⟨i,rfl⟩: ∃q,i=q+1:=⟨i -1,by omega⟩;rw[QP t hk (by omega)];exact h i j (by omega) (by omega)
theorem QQ {T:List Ad} {k:Nat} (t:Ad) (hk:k<T.length):gt (T.set k t) k=t:=by
 rw[gt_get?,List.getElem?_set,if_pos rfl,if_pos hk];rfl
theorem Mn {T:List Ad} {k i:Nat} (t:Ad) (h: ¬i=k):gt (T.set k t) i=gt T i:=by
 rw[gt_get?,gt_get?,List.getElem?_set,if_neg (fun e=>h e.symm)]
theorem YW {T:List Ad} (h:Fn T) {t:Ad} {k:Nat} (hk:k<T.length) (hs:Ht (gt T k) t):Fn (T.set k t):=by
 intro i j hij hj;rw[List.length_set] at hj;by_cases e1:i=k
 ·subst e1;rw[QQ t hk,Mn t (by omega),←OJ hs];exact h i j hij hj
 rw[Mn t e1];by_cases e2:j=k
 ·subst e2;rw[QQ t hk,←OK hs];exact h i j hij hj
 rw[Mn t e2];exact h i j hij hj
theorem RY {T:List Ad} {k:Nat} (hk:k<T.length):(Ke T k).length +1=T.length:=by
 unfold Ke;rw[List.length_append,List.length_take,List.length_drop];omega
theorem Ab3 {T:List Ad} {k:Nat} (hk:k<T.length) (i:Nat):gt (Ke T k) i=if i<k then gt T i else gt T (i+1):=by
 have hl:(T.take k).length =k:=by rw[List.length_take];omega
 split
 ·rename_i h
  rw[gt_get?,gt_get?,Ke,List.getElem?_append_left (by rw[hl];exact h),List.getElem?_take,if_pos h]
 rename_i h
 rw[gt_get?,gt_get?,Ke,List.getElem?_append_right (by rw[hl];omega),hl,List.getElem?_drop,show k+1+(i -k)=i+1 by omega]
theorem YX {T:List Ad} (h:Fn T) {k:Nat} (hk:k<T.length):Fn (Ke T k):=by
 intro i j hij hj;have hl:=RY hk;rw[Ab3 hk,Ab3 hk];split<;>split<;>exact h _ _ (by omega) (by omega)
theorem TX {T:List Ad} (h:Fn T): ∀n,n≤T.length→Fp T n=true
 |0,_=>rfl
 |n+1,hn=>by
  rw[Fp,TX h n (by omega),Bool.true_and];by_cases e:n=0
  ·simp[e]
  rw[h (n -1) n (by omega) (by omega)];simp
theorem Xf {t:Ad} (h:OR t=true):DX t=true:=by
 unfold OR DO at h;simp only[Bool.and_eq_true,List.all_cons] at h;exact h.1.1.1.1.2.1
theorem TY {T:List Ad} {v x:Int} (h:Fn T) (h1: ∀t∈T,OR t=true) (h2:T.length≤16) (h3:BE v=true) (h4:Ca x=true):DO CF v x T []=true:=by
 unfold DO;rw[h3,h4,TX h _ (Nat.le_refl _),decide_eq_true h2,List.all_eq_true.2 (fun t ht=>Xf (h1 t ht))];rfl
end Go.Proofs.YtjjhceeookpieaaGreat
end
section
set_option maxRecDepth 100000
set_option maxHeartbeats 3200000
open Go Go.RowKit
namespace Go.Proofs.YtjjhceeookpieaaGreat
def KT (T:List Ad) (t:Ad) (k:Nat):Int×List Ad:=if OR t then(if Ui T (GK t.l t.ecu) k then(0,T.set k t) else if 16≤T.length then(12,T) else(0,Ik T k t)) else(1,T)
section
variable {sd f:Ak} {p0 p1:Value} {g v:Int} {suf:List Value} {B:Option Addr} {m d:Nat} {T:List Ad} {zr:Nat} {w:World}
theorem PN (t:Ad) [hb:HB w zr 84 (Bg sd p0 p1 f g v (.slice B m d::suf)).toArray] [ho:HO w 44 37 B m d (cellsOf T)] (hl:T.length=m) (hm:m≤1000) (hrise:Fn T) (hoff:As (An B) zr) (hsuf:suf.length=7):
    Calls Tryz.prog 8 #[.pointer (some ⟨zr,0,none⟩), .agg (Af.enc t).toArray] w fun e w'=>∃k,e= .returned (.int .i64 (KT T t k).1)∧Hid (LE T (GK t.l t.ecu) k)∧Ag (LH zr B) w w'∧∃B' d',HB w' zr 84 (Bg sd p0 p1 f g v (.slice B' (KT T t k).2.length d'::suf)).toArray ∧HO w' 44 37 B' (KT T t k).2.length d' (cellsOf (KT T t k).2)∧Hid (∀ad,B'=some ad→B'=B∨w.heap.size≤ad.block):=by
 subst hl;have hsz:(Af.enc t).toArray.size =37:=DB t;have hon:=AY t;have HLT: ∀x,Hid (68<(Bg sd p0 p1 f g v (x::suf)).toArray.size):=fun x=>Lib.hid (Afg sd p0 p1 f g v x suf hsuf)
 have HRISE:=Lib.hid hrise;have HO0:=Lib.hid ho.out;have HPL: ∃k,LE T (GK t.l t.ecu) k:=OL hrise _;clear hrise;cases hmay:OR t
 case false=>
  have HM:=Lib.hid hmay;clear hmay;go_enter Tryz.func8,Tryz.ntmps8;go_wp2_with (first|(refine Bv 3 ?_;intro zt wzt _ _ _)|(refine Ct ?_)|(refine Cp ?_));refine(LF t _).mono ?_;rw[HM.out];rintro e w5 ⟨rfl,st5⟩;have hb5:HB w5 zr 84 (Bg sd p0 p1 f g v (.slice B T.length d::suf)).toArray :=inferInstance;have ho5:HO w5 44 37 B T.length d (cellsOf T):=inferInstance;go_wp2_with fail;go_ret;obtain⟨k,hk⟩:=HPL;have e9:KT T t k=(1,T):=by unfold KT;rw[HM.out];rfl
  refine⟨k,by rw[e9];rfl,Lib.hid hk,⟨(Aa (w0:=w) (w:=w5)).chg.mono (fun _ _ h=>h.elim)⟩,B,d, ?_, ?_,Lib.hid (fun ad _=> .inl rfl)⟩
  ·rw[e9];exact hb5
  rw[e9];exact ho5
 case true=>
  have HM:=Lib.hid hmay;clear hmay HPL;go_enter Tryz.func8,Tryz.ntmps8;go_wp2_with (first|(refine Bv 3 ?_;intro zt wzt _ _ _)|(refine Ct ?_)|(refine Cp ?_));have hztw:w.heap.size≤zt:=Nat.le_of_eq (inferInstance:AW w zt).eq.symm;have hzrl:=hb.out.lt;have hBl: ∀ad,B=some ad→ad.block<w.heap.size:=fun ad e=>HO0.out.lt e
  have ozt:As (LH zr B) zt:=⟨fun h=>by
   rcases h with h|⟨ad,e,h⟩
   ·have h':zt=zr:=h;omega
   have:=hBl ad e;omega⟩
  have oBt:As (An B) zt:=⟨fun h=>ozt.out (.inr h)⟩;refine(LF t _).mono ?_;rw[HM.out];rintro e w5 ⟨rfl,st5⟩;have ht5:HB w5 zt 44 (Af.enc t).toArray :=inferInstance;have hb5:HB w5 zr 84 (Bg sd p0 p1 f g v (.slice B T.length d::suf)).toArray :=inferInstance;have ho5:HO w5 44 37 B T.length d (cellsOf T):=inferInstance;go_wp2_with (first|(refine WH 17 0 ht5 (Dn _) ?_)|(refine WH 19 36 ht5 (EK _) ?_));refine(LI (T:=T) t.l t.ecu rfl (by omega) HRISE.out).mono ?_;rintro e w6 ⟨k,rfl,hp6,st6⟩;have ht6:HB w6 zt 44 (Af.enc t).toArray :=inferInstance;have hb6:HB w6 zr 84 (Bg sd p0 p1 f g v (.slice B T.length d::suf)).toArray :=inferInstance;have ho6:HO w6 44 37 B T.length d (cellsOf T):=inferInstance;have hkT:k≤T.length:=hp6.out.1;have hch6:Hid (Au Ab w w6):=Lib.hid (Aa (w0:=w) (w:=w6)).chg;cases hin:Ui T (GK t.l t.ecu) k
  case true=>
   have hkl:k<T.length:=by
    unfold Ui at hin;rw[Bool.and_eq_true,decide_eq_true_eq] at hin;exact hin.1
   have HIN:=Lib.hid hin;clear hin ht5 hb5 ho5;have HEN:Hid (Af.enc t=(Af.enc (gt T k)).take 0++(Af.enc t).toArray.toList ++(Af.enc (gt T k)).drop (0+37)):=Lib.hid (by
    rw[List.take_zero,List.nil_append,List.drop_of_length_le (by rw[Af.len];exact Nat.le_refl _),List.append_nil])
   have hkI:(k:Int)<(T.length:Int):=by omega
   have hr6:HR w6 B (cellsOf T):=⟨ho6.out.rd⟩;go_wp2_with fail;refine Ah ((An B)) (by kernel_rfl) (fun wd _ _=> ?_);refine YS 0 ?_;refine YS 1 ?_;refine YS 2 ?_;refine IS 3 68 (GJ _ _ _ _ _ _ _ _) ?_;refine YS 4 ?_;refine KW 5 ?_;refine Yh 6 fun K_ hK_=> ?_
   (first|((with_reducible apply(Oc (α:=Ad) (k:=k) (j:=0) (s:=37)));exact rfl;exact rfl;infer_instance;infer_instance;exact hsz;(decide);exact hon;exact rfl;exact hkl;(decide);exact HEN.out;intro wq stq hoq)|(refine WIH ?_)|((with_reducible apply Tc);exact rfl;exact rfl;infer_instance;infer_instance;(first|(with_reducible assumption)|omega);(first|(with_reducible assumption)|omega);(first|(with_reducible assumption)|omega))|(refine Ja Ad 63 ?_)|((with_reducible apply(Ug (α:=Ad) (t:=63)));exact rfl;infer_instance;infer_instance;(first|(with_reducible assumption)|omega|(focus (simp;done))|(focus (simp;omega;done))|decide);exact rfl;(decide);(first|(with_reducible assumption)|omega|(focus (simp;done))|(focus (simp;omega;done))|decide)))
   refine Yn hK_ ?_;clear hK_ K_;refine Yh 7 fun K_ hK_=> ?_
   (first|((with_reducible apply(Oc (α:=Ad) (k:=k) (j:=0) (s:=37)));exact rfl;exact rfl;infer_instance;infer_instance;exact hsz;(decide);exact hon;exact rfl;exact hkl;(decide);exact HEN.out;intro wq stq hoq)|(refine Bt ?_;intro ws _ _)|(refine KZ ?_;intro ws _ _)|(refine WSH 23 ?_;intro ws _ _)|((with_reducible apply(Es (t:=5)));exact rfl;exact rfl;infer_instance;(first|(with_reducible assumption)|omega);(first|(with_reducible assumption)|omega);(first|(constructor<;>omega)|exact Ib _ _);intro ws _ _)|(refine ZD 3 ?_;intro ws _ _)|(refine WSX 5 ?_;intro ws _ _))
   refine Ym hK_ ?_;clear hK_ K_;refine Yd ?_
   all_goals
    have hbq:HB wq zr 84 (Bg sd p0 p1 f g v (.slice B T.length d::suf)).toArray :=inferInstance;go_wp2_with fail;go_ret;have hcq:Au (An B) w6 wq:=(inferInstance:Ch (An B) w6 wq).out;have e9:KT T t k=(0,T.set k t):=by unfold KT;rw[HM.out,HIN.out];rfl
    refine⟨k,by rw[e9];rfl,hp6,⟨(hch6.out.mono (T:=LH zr B) (fun _ _ h=>h.elim)).trans hcq (fun _ _ h=> .inr h)⟩,B,d, ?_, ?_,Lib.hid (fun ad _=> .inl rfl)⟩
    ·rw[e9,List.length_set];exact hbq
    rw[e9,List.length_set];exact hoq
  case false=>
   have HIN:=Lib.hid hin;clear hin ht5 hb5 ho5;by_cases hfull:16≤T.length
   ·have hfI: ¬(T.length:Int)<16:=by omega
    go_wp2_with (first|(refine SS 68 hb6 (GJ _ _ _ _ _ _ _ _) ?_));go_ret;have e9:KT T t k=(12,T):=by unfold KT;rw[HM.out,HIN.out,if_pos rfl,if_neg (by decide),if_pos hfull]
    refine⟨k,by rw[e9];rfl,hp6,⟨hch6.out.mono (fun _ _ h=>h.elim)⟩,B,d, ?_, ?_,Lib.hid (fun ad _=> .inl rfl)⟩
    ·rw[e9];exact hb6
    rw[e9];exact ho6
   have hfI:(T.length:Int)<16:=by omega
   go_wp2_with (first|(refine SS 68 hb6 (GJ _ _ _ _ _ _ _ _) ?_));refine Ah ((LH zr B)) (by kernel_rfl) (fun wd _ _=> ?_);refine YS 0 ?_;refine YS 1 ?_;refine YS 2 ?_;refine YS 3 ?_;refine YS 5 ?_;refine KW 6 ?_;refine wpAnyH_ready (rs:=[4,7]) (by kernel_rfl) (by simp) (AllReadyH.cons rfl (fun K_ hK_=> ?_) (AllReadyH.cons rfl (fun K_ hK_=> ?_) AllReadyH.nil))
   focus
    refine Yq ?_
    (first|(refine WO 68 (GJ _ _ _ _ _ _ _ _) ?_)|(refine BM 44 (IJ _ _) ?_;intro zb wb _ _ _)|(refine WSk 68 hb7 ((HLT _).out) ?_;intro ws _ hwsr)|(refine Cp ?_)|((with_reducible apply Ac);exact rfl;infer_instance;(first|(exact rfl)|(exact tg_hw _)|(exact tg_ctr _)|(exact tg_ecu _)|(exact srch_who)|exact srch_fd))|(refine WLH 23 ?_)|((with_reducible apply(Kl (t:=5)));exact rfl;infer_instance;(first|(with_reducible assumption)|omega);(first|(with_reducible assumption)|omega))|(refine Rk Ad 44 ?_)|((with_reducible apply(GD (α:=Ad)));infer_instance;exact rfl;infer_instance;exact rfl;(first|(with_reducible assumption)|omega|(focus (simp;done))|(focus (simp;omega;done))|decide);(first|(exact rfl)|(exact tg_hw _)|(exact tg_ctr _)|(exact tg_ecu _)|(exact srch_who)|exact srch_fd))|(refine WLI 3 ?_)|(refine WLB 5 ?_))
    refine Yn hK_ ?_;clear hK_ K_;refine Yh 7 fun K_ hK_=> ?_
    (first|(refine WO 68 (GJ _ _ _ _ _ _ _ _) ?_)|(refine BM 44 (IJ _ _) ?_;intro zb wb _ _ _)|(refine WSk 68 hb7 ((HLT _).out) ?_;intro ws _ hwsr))
    refine Yn hK_ ?_;clear hK_ K_;refine Yg 8 fun K_ hK_=> ?_
    go_simp;have hbz:HB wb zb 44 (cellsOf [t]).toArray :=inferInstance;have hzb:w6.heap.size≤zb:=Nat.le_trans (inferInstance:Ay w6 wd).out (Nat.le_of_eq (inferInstance:AW wd zb).eq.symm);have hsz6:=hch6.out.size;have oBz:As (An B) zb:=⟨fun⟨ad,e,h⟩=>by have:=hBl ad e;omega⟩;refine(OD (L:=T) t rfl (by omega) hkT oBz).mono ?_;rintro e w7 ⟨B',d',rfl,st7,ho7,hg7,hc7⟩;have hb7:HB w7 zr 84 (Bg sd p0 p1 f g v (.slice B T.length d::suf)).toArray :=inferInstance;have szb:w.heap.size≤wb.heap.size:=Nat.le_trans hsz6 (inferInstance:Ay w6 wb).out;have oB7:BW (only zr) B':=⟨fun ad e h=>by
     have h':ad.block=zr:=h;rcases hg7.out with h9|h9
     ·exact hoff.out ⟨ad,by rw[←h9];exact e,h'⟩
     rw[h9] at e;injection e with e
     subst e;have h2:wb.heap.size=zr:=h';omega⟩
    refine Yz hK_ ?_;clear hK_ K_;refine YS 9 ?_;refine YS 10 ?_;refine Yh 11 fun K_ hK_=> ?_
    (first|(refine WO 68 (GJ _ _ _ _ _ _ _ _) ?_)|(refine BM 44 (IJ _ _) ?_;intro zb wb _ _ _)|(refine WSk 68 hb7 ((HLT _).out) ?_;intro ws _ hwsr)|(refine Bt ?_;intro ws _ _)|(refine KZ ?_;intro ws _ _)|(refine WSH 23 ?_;intro ws _ _)|((with_reducible apply(Es (t:=5)));exact rfl;exact rfl;infer_instance;(first|(with_reducible assumption)|omega);(first|(with_reducible assumption)|omega);(first|(constructor<;>omega)|exact Ib _ _);intro ws _ _)|(refine ZD 3 ?_;intro ws _ _)|(refine WSX 5 ?_;intro ws _ _))
    refine Ym hK_ ?_;clear hK_ K_;refine Yd ?_
   rotate_left 1
   focus
    refine Yq ?_
    (first|(refine WO 68 (GJ _ _ _ _ _ _ _ _) ?_)|(refine BM 44 (IJ _ _) ?_;intro zb wb _ _ _)|(refine WSk 68 hb7 ((HLT _).out) ?_;intro ws _ hwsr))
    refine Yn hK_ ?_;clear hK_ K_;refine Yh 4 fun K_ hK_=> ?_
    (first|(refine WO 68 (GJ _ _ _ _ _ _ _ _) ?_)|(refine BM 44 (IJ _ _) ?_;intro zb wb _ _ _)|(refine WSk 68 hb7 ((HLT _).out) ?_;intro ws _ hwsr)|(refine Cp ?_)|((with_reducible apply Ac);exact rfl;infer_instance;(first|(exact rfl)|(exact tg_hw _)|(exact tg_ctr _)|(exact tg_ecu _)|(exact srch_who)|exact srch_fd))|(refine WLH 23 ?_)|((with_reducible apply(Kl (t:=5)));exact rfl;infer_instance;(first|(with_reducible assumption)|omega);(first|(with_reducible assumption)|omega))|(refine Rk Ad 44 ?_)|((with_reducible apply(GD (α:=Ad)));infer_instance;exact rfl;infer_instance;exact rfl;(first|(with_reducible assumption)|omega|(focus (simp;done))|(focus (simp;omega;done))|decide);(first|(exact rfl)|(exact tg_hw _)|(exact tg_ctr _)|(exact tg_ecu _)|(exact srch_who)|exact srch_fd))|(refine WLI 3 ?_)|(refine WLB 5 ?_))
    refine Yn hK_ ?_;clear hK_ K_;refine Yg 8 fun K_ hK_=> ?_
    go_simp;have hbz:HB wb zb 44 (cellsOf [t]).toArray :=inferInstance;have hzb:w6.heap.size≤zb:=Nat.le_trans (inferInstance:Ay w6 wd).out (Nat.le_of_eq (inferInstance:AW wd zb).eq.symm);have hsz6:=hch6.out.size;have oBz:As (An B) zb:=⟨fun⟨ad,e,h⟩=>by have:=hBl ad e;omega⟩;refine(OD (L:=T) t rfl (by omega) hkT oBz).mono ?_;rintro e w7 ⟨B',d',rfl,st7,ho7,hg7,hc7⟩;have hb7:HB w7 zr 84 (Bg sd p0 p1 f g v (.slice B T.length d::suf)).toArray :=inferInstance;have szb:w.heap.size≤wb.heap.size:=Nat.le_trans hsz6 (inferInstance:Ay w6 wb).out;have oB7:BW (only zr) B':=⟨fun ad e h=>by
     have h':ad.block=zr:=h;rcases hg7.out with h9|h9
     ·exact hoff.out ⟨ad,by rw[←h9];exact e,h'⟩
     rw[h9] at e;injection e with e
     subst e;have h2:wb.heap.size=zr:=h';omega⟩
    refine Yz hK_ ?_;clear hK_ K_;refine YS 9 ?_;refine YS 10 ?_;refine Yh 11 fun K_ hK_=> ?_
    (first|(refine WO 68 (GJ _ _ _ _ _ _ _ _) ?_)|(refine BM 44 (IJ _ _) ?_;intro zb wb _ _ _)|(refine WSk 68 hb7 ((HLT _).out) ?_;intro ws _ hwsr)|(refine Bt ?_;intro ws _ _)|(refine KZ ?_;intro ws _ _)|(refine WSH 23 ?_;intro ws _ _)|((with_reducible apply(Es (t:=5)));exact rfl;exact rfl;infer_instance;(first|(with_reducible assumption)|omega);(first|(with_reducible assumption)|omega);(first|(constructor<;>omega)|exact Ib _ _);intro ws _ _)|(refine ZD 3 ?_;intro ws _ _)|(refine WSX 5 ?_;intro ws _ _))
    refine Ym hK_ ?_;clear hK_ K_;refine Yd ?_
   rotate_left 1
   all_goals
    have hw2:HB ws zr 84 (Bg sd p0 p1 f g v (.slice B' (T.length+1) d'::suf)).toArray :=by
     rw[←Uk sd p0 p1 f g v (.slice B T.length d)];exact hwsr
    have ho8:HO ws 44 37 B' (T.length+1) d' (cellsOf (Ik T k t)):=inferInstance;have hcs:Au (LH zr B) w6 ws:=(inferInstance:Ch (LH zr B) w6 ws).out;go_wp2_with fail;go_ret;have e9:KT T t k=(0,Ik T k t):=by unfold KT;rw[HM.out,HIN.out,if_pos rfl,if_neg (by decide),if_neg hfull]
    refine⟨k,by rw[e9];rfl,hp6,⟨(hch6.out.mono (T:=LH zr B) (fun _ _ h=>h.elim)).trans hcs (fun _ _ h=>h)⟩,B',d', ?_, ?_,Lib.hid (fun ad e=> ?_)⟩
    ·rw[e9,NF _ _ _ hkT];exact hw2
    ·rw[e9,NF _ _ _ hkT];exact ho8
    rcases hg7.out with h9|h9
    ·exact .inl h9
    rw[h9] at e;injection e with e
    subst e;exact .inr szb
def OE (T:List Ad) (nm ecu:List UInt8) (k:Nat):Int×List Ad:=if Ui T (GK nm ecu) k then(0,Ke T k) else(9,T)
theorem RW (nm ecu:List UInt8) [hb:HB w zr 84 (Bg sd p0 p1 f g v (.slice B m d::suf)).toArray] [ho:HO w 44 37 B m d (cellsOf T)] (hl:T.length=m) (hm:m≤1000) (hrise:Fn T) (hoff:As (An B) zr) (hoffA:BW (only zr) B) (hsuf:suf.length=7):
    Calls Tryz.prog 9 #[.pointer (some ⟨zr,0,none⟩), .string (Al nm), .string (Al ecu)] w fun e w'=>∃k,e= .returned (.int .i64 (OE T nm ecu k).1)∧Hid (LE T (GK nm ecu) k)∧Ag (LH zr B) w w'∧HB w' zr 84 (Bg sd p0 p1 f g v (.slice B (OE T nm ecu k).2.length d::suf)).toArray ∧HO w' 44 37 B (OE T nm ecu k).2.length d (cellsOf (OE T nm ecu k).2):=by
 subst hl;have HLT: ∀x,Hid (68<(Bg sd p0 p1 f g v (x::suf)).toArray.size):=fun x=>Lib.hid (Afg sd p0 p1 f g v x suf hsuf)
 have HRISE:=Lib.hid hrise;clear hrise;go_enter Tryz.func9,Tryz.ntmps9;go_wp2_with fail;refine(LI (T:=T) nm ecu rfl (by omega) HRISE.out).mono ?_;rintro e w6 ⟨k,rfl,hp6,st6⟩;have hb6:HB w6 zr 84 (Bg sd p0 p1 f g v (.slice B T.length d::suf)).toArray :=inferInstance;have ho6:HO w6 44 37 B T.length d (cellsOf T):=inferInstance;have hch6:Hid (Au Ab w w6):=Lib.hid (Aa (w0:=w) (w:=w6)).chg;cases hin:Ui T (GK nm ecu) k
 case false=>
  have HIN:=Lib.hid hin;clear hin;go_wp2_with fail;go_ret;have e9:OE T nm ecu k=(9,T):=by unfold OE;rw[HIN.out];rfl
  refine⟨k,by rw[e9];rfl,hp6,⟨hch6.out.mono (fun _ _ h=>h.elim)⟩, ?_, ?_⟩
  ·rw[e9];exact hb6
  rw[e9];exact ho6
 case true=>
  have hkl:k<T.length:=((NG _ _ _).1 hin).1;have HIN:=Lib.hid hin;clear hin;obtain⟨p,hp⟩: ∃p,T.length=p+1:=⟨T.length -1,by omega⟩;have HP:=Lib.hid hp;have ho6':HO w6 44 37 B (p+1) d (cellsOf T):=by rw[←hp];exact ho6
  have hb6':HB w6 zr 84 (Bg sd p0 p1 f g v (.slice B (p+1) d::suf)).toArray :=by rw[←hp];exact hb6
  clear hb6 ho6 hb ho;go_wp2_with (first|(refine SS 68 hb6' (GJ _ _ _ _ _ _ _ _) ?_));have hkp:k≤p:=by omega
  have hpm:p≤1000000:=by omega
  clear hp;refine(VY (L:=T) HP.out hkp hpm).mono ?_;rintro e w7 ⟨rfl,st7,ho7⟩;have hb7:HB w7 zr 84 (Bg sd p0 p1 f g v (.slice B (p+1) d::suf)).toArray :=inferInstance;go_wp2_with (first|(refine WSk 68 hb7 ((HLT _).out) ?_;intro ws _ hwsr));have hw2:HB ws zr 84 (Bg sd p0 p1 f g v (.slice B p d::suf)).toArray :=by
   rw[←Uk sd p0 p1 f g v (.slice B (p+1) d)];exact hwsr
  have ho8:HO ws 44 37 B p d (cellsOf (Ke T k)):=inferInstance;have e3:Au (only zr) w7 ws:=(inferInstance:Ag (only zr) w7 ws).chg;go_ret;have e9:OE T nm ecu k=(0,Ke T k):=by unfold OE;rw[HIN.out];rfl
  have hdl:(Ke T k).length =p:=by
   have:=RY hkl;have:=HP.out;omega
  refine⟨k,by rw[e9];rfl,hp6,⟨((hch6.out.mono (T:=LH zr B) (fun _ _ h=>h.elim)).trans st7.chg (fun _ _ h=> .inr h)).trans e3 (fun _ _ h=> .inl h)⟩, ?_, ?_⟩
  ·rw[e9];show HB ws zr _ (Bg sd p0 p1 f g v (.slice B (Ke T k).length d::suf)).toArray;rw[hdl];exact hw2
  rw[e9];show HO ws _ 37 B (Ke T k).length d (cellsOf (Ke T k));rw[hdl];exact ho8
end
end Go.Proofs.YtjjhceeookpieaaGreat
end
section
open Go Go.RowKit
namespace Go.Proofs.YtjjhceeookpieaaGreat
noncomputable def plc (T:List Ad) (x:Ad):Nat:=open Classical in if h: ∃k,LE T x k then Classical.choose h else 0
theorem Wa {T:List Ad} {x:Ad} {k:Nat} (h:LE T x k):k=plc T x:=by
 have he: ∃k,LE T x k:=⟨k,h⟩;unfold plc;rw[dif_pos he];exact Wb h (Classical.choose_spec he)
theorem Aga {T:List Ad} {x:Ad} (h:Fn T):LE T x (plc T x):=by
 obtain⟨k,hk⟩:=OL h x;rw[←Wa hk];exact hk
structure Il where
 sd:Ak
 f:Ak
 g:Int
 v:Int
 z0:Nat
 z1:Nat
 u0:Int
 u1:Int
 B:Option Addr
 d:Nat
 T:List Ad
 C:Option Addr
 cc:Nat
 D:List Ad
 X:Option Addr
 xc:Nat
 xl:List JY
 LX:List Nx
 t0:Value
 t1:Value
 mt:Nx
 s0:Value
 s1:Value
 ms:Nx
 G:Option Addr
 gc:Nat
 gl:List JY
 LG:List Nx
 O:Nat→Prop
def Il.tl (s:Il):List Value:=[.slice s.B s.T.length s.d, .slice s.X s.xl.length s.xc,s.t0,s.t1,s.s0,s.s1, .slice s.G s.gl.length s.gc, .slice s.C s.D.length s.cc]
def KX (zr:Nat) (s:Il):Nat→Prop:=fun x=>x=zr∨x=s.z0∨x=s.z1∨An s.B x∨An s.C x∨An s.X x
structure FV (w:World) (zr:Nat) (s:Il):Prop where
 hb:HB w zr 84 (Bg s.sd (.pointer (some ⟨s.z0,0,none⟩)) (.pointer (some ⟨s.z1,0,none⟩)) s.f s.g s.v s.tl).toArray
 k0:AH w s.z0 (Ao s.sd 0) s.u0
 k1:AH w s.z1 (Ao s.sd s.g) s.u1
 hB:HO w 44 37 s.B s.T.length s.d (cellsOf s.T)
 hC:HO w 44 37 s.C s.D.length s.cc (cellsOf s.D)
 hX:HO w 58 2 s.X s.xl.length s.xc (cellsOf s.xl)
 hG:Rd w s.G (cellsOf s.gl)
 ap:s.z0≠zr∧s.z1≠zr∧s.z0≠s.z1
 aB: ∀a,s.B=some a→a.block≠zr∧a.block≠s.z0∧a.block≠s.z1
 aC: ∀a,s.C=some a→a.block≠zr∧a.block≠s.z0∧a.block≠s.z1
 aX: ∀a,s.X=some a→a.block≠zr∧a.block≠s.z0∧a.block≠s.z1
 aBC: ∀a b,s.B=some a→s.C=some b→a.block≠b.block
 aBX: ∀a b,s.B=some a→s.X=some b→a.block≠b.block
 aCX: ∀a b,s.C=some a→s.X=some b→a.block≠b.block
 oLt: ∀y,s.O y→y<w.heap.size
 oM: ∀y,s.O y→¬KX zr s y
 gO: ∀a,s.G=some a→s.O a.block
 et:Mu s.O w s.mt.1 s.mt.2 s.t0 s.t1
 es:Mu s.O w s.ms.1 s.ms.2 s.s0 s.s1
 eX:EvL s.O w s.xl s.LX
 eG:EvL s.O w s.gl s.LG
theorem FV.lts {w:World} {zr:Nat} {s:Il} (R:FV w zr s): ∀x,KX zr s x→x<w.heap.size:=by
 intro x h;rcases h with h|h|h|⟨a,e,h⟩|⟨a,e,h⟩|⟨a,e,h⟩
 ·rw[h];exact R.hb.out.lt
 ·rw[h];exact R.k0.lt
 ·rw[h];exact R.k1.lt
 ·rw[←h];exact R.hB.out.lt e
 ·rw[←h];exact R.hC.out.lt e
 rw[←h];exact R.hX.out.lt e
theorem FV.chg {w w':World} {zr:Nat} {s:Il} {S:Nat→Prop} (R:FV w zr s) (c:Au S w w') (hs: ∀y,S y→¬KX zr s y∧¬s.O y):FV w' zr s:=by
 have st:Ag S w w':=⟨c⟩;have i1:=R.hb;have i2:=R.k0;have i3:=R.k1;have i4:=R.hB;have i5:=R.hC;have i6:=R.hX;have o1:As S zr:=⟨fun h=>(hs _ h).1 (.inl rfl)⟩;have o2:As S s.z0:=⟨fun h=>(hs _ h).1 (.inr (.inl rfl))⟩;have o3:As S s.z1:=⟨fun h=>(hs _ h).1 (.inr (.inr (.inl rfl)))⟩;have o4:BW S s.B:=⟨fun ad e h=>(hs _ h).1 (.inr (.inr (.inr (.inl ⟨ad,e,rfl⟩))))⟩;have o5:BW S s.C:=⟨fun ad e h=>(hs _ h).1 (.inr (.inr (.inr (.inr (.inl ⟨ad,e,rfl⟩)))))⟩;have o6:BW S s.X:=⟨fun ad e h=>(hs _ h).1 (.inr (.inr (.inr (.inr (.inr ⟨ad,e,rfl⟩)))))⟩;have hO: ∀y,s.O y→¬S y:=fun y h1 h2=>(hs y h2).2 h1
 exact⟨inferInstance,inferInstance,inferInstance,inferInstance,inferInstance,inferInstance,R.hG.chg c (fun _ ad e h=>(hs _ h).2 (R.gO ad e)),R.ap,R.aB,R.aC,R.aX,R.aBC,R.aBX,R.aCX,fun y h=>Nat.lt_of_lt_of_le (R.oLt y h) c.size,R.oM,R.gO,R.et.chg c hO,R.es.chg c hO,R.eX.chg c hO,R.eG.chg c hO⟩
theorem FV.nw {w w':World} {zr:Nat} {s:Il} (R:FV w zr s) (c:Au Ab w w'):FV w' zr s:=R.chg c (fun _ h=>h.elim)
structure Hq (w w':World) (zr:Nat) (s s':Il):Prop where
 st:Au (KX zr s) w w'
 at':FV w' zr s'
 fr: ∀x,KX zr s' x∨s'.O x→(KX zr s x∨s.O x)∨w.heap.size≤x
theorem CJ {A A':Option Addr} {w:World} (h: ∀ad,A'=some ad→A'=A∨w.heap.size≤ad.block) (z:Nat) (hz:z<w.heap.size) (ha: ∀ad,A=some ad→ad.block≠z): ∀ad,A'=some ad→ad.block≠z:=fun ad e=>by
 rcases h ad e with h1|h1
 ·rw[h1] at e;exact ha ad e
 omega
theorem Aef {zr:Nat} {s:Il}: ∀x,LH zr s.B x→KX zr s x:=fun x h=>by
 rcases h with h|h
 ·exact .inl h
 exact .inr (.inr (.inr (.inl h)))
theorem FV.setT {w w':World} {zr:Nat} {s:Il} (R:FV w zr s) (c:Au (LH zr s.B) w w') {B':Option Addr} {d':Nat} {T':List Ad} (hb:HB w' zr 84 (Bg s.sd (.pointer (some ⟨s.z0,0,none⟩)) (.pointer (some ⟨s.z1,0,none⟩)) s.f s.g s.v [.slice B' T'.length d', .slice s.X s.xl.length s.xc,s.t0,s.t1,s.s0,s.s1, .slice s.G s.gl.length s.gc, .slice s.C s.D.length s.cc]).toArray) (hB:HO w' 44 37 B' T'.length d' (cellsOf T')) (hn: ∀ad,B'=some ad→B'=s.B∨w.heap.size≤ad.block):Hq w w' zr s {s with B:=B',d:=d',T:=T'}:=by
 have st:Ag (LH zr s.B) w w':=⟨c⟩;have hs:=Aef (zr:=zr) (s:=s);have i2:=R.k0;have i3:=R.k1;have i5:=R.hC;have i6:=R.hX;have o2:As (LH zr s.B) s.z0:=⟨fun h=>by
  rcases h with h|⟨ad,e,h⟩
  ·exact R.ap.1 h
  exact(R.aB ad e).2.1 h⟩
 have o3:As (LH zr s.B) s.z1:=⟨fun h=>by
  rcases h with h|⟨ad,e,h⟩
  ·exact R.ap.2.1 h
  exact(R.aB ad e).2.2 h⟩
 have o5:BW (LH zr s.B) s.C:=⟨fun bd e2 h=>by
  rcases h with h|⟨ad,e,h⟩
  ·exact(R.aC bd e2).1 h
  exact R.aBC ad bd e e2 h⟩
 have o6:BW (LH zr s.B) s.X:=⟨fun bd e2 h=>by
  rcases h with h|⟨ad,e,h⟩
  ·exact(R.aX bd e2).1 h
  exact R.aBX ad bd e e2 h⟩
 have hO: ∀y,s.O y→¬LH zr s.B y:=fun y h1 h2=>R.oM y h1 (hs y h2)
 have lr:=R.hb.out.lt;have l0:=R.k0.lt;have l1:=R.k1.lt;have fr: ∀x,KX zr {s with B:=B',d:=d',T:=T'} x→KX zr s x∨w.heap.size≤x:=fun x h=>by
  rcases h with h|h|h|⟨ad,e,h⟩|h|h
  ·exact .inl (.inl h)
  ·exact .inl (.inr (.inl h))
  ·exact .inl (.inr (.inr (.inl h)))
  ·rcases hn ad e with h1|h1
   ·have e':B'=some ad:=e;rw[h1] at e';exact .inl (.inr (.inr (.inr (.inl ⟨ad,e',h⟩))))
   right;omega
  ·exact .inl (.inr (.inr (.inr (.inr (.inl h)))))
  exact .inl (.inr (.inr (.inr (.inr (.inr h)))))
 refine⟨c.mono (fun x _ h=>hs x h),⟨hb,inferInstance,inferInstance,hB,inferInstance,inferInstance,R.hG.chg c (fun _ ad e=>hO _ (R.gO ad e)),R.ap,fun ad e=>⟨CJ hn zr lr (fun a h=>(R.aB a h).1) ad e,CJ hn s.z0 l0 (fun a h=>(R.aB a h).2.1) ad e,CJ hn s.z1 l1 (fun a h=>(R.aB a h).2.2) ad e⟩,R.aC,R.aX,fun ad bd e e2=>CJ hn bd.block (R.hC.out.lt e2) (fun a h=>R.aBC a bd h e2) ad e,fun ad bd e e2=>CJ hn bd.block (R.hX.out.lt e2) (fun a h=>R.aBX a bd h e2) ad e,R.aCX,fun y h=>Nat.lt_of_lt_of_le (R.oLt y h) c.size,fun y h1 h2=> ?_,R.gO,R.et.chg c hO,R.es.chg c hO,R.eX.chg c hO,R.eG.chg c hO⟩,fun x h=> ?_⟩
 ·rcases fr y h2 with h3|h3
  ·exact R.oM y h1 h3
  have:=R.oLt y h1;omega
 rcases h with h|h
 ·exact(fr x h).imp (fun h=> .inl h) (fun h=>h)
 exact .inl (.inr h)
noncomputable def Alq (T:List Ad) (t:Ad):Int:=(KT T t (plc T (GK t.l t.ecu))).1
noncomputable def Agb (T:List Ad) (t:Ad):List Ad:=(KT T t (plc T (GK t.l t.ecu))).2
noncomputable def Alr (T:List Ad) (nm ecu:List UInt8):Int:=(OE T nm ecu (plc T (GK nm ecu))).1
noncomputable def Agc (T:List Ad) (nm ecu:List UInt8):List Ad:=(OE T nm ecu (plc T (GK nm ecu))).2
def Ai2 (s:Il) (T':List Ad) (zr:Nat) (w w':World):Prop:=∃B' d',Hq w w' zr s {s with B:=B',d:=d',T:=T'}
theorem OH {w:World} {zr:Nat} {s:Il} (R:FV w zr s) (t:Ad) (hr:Fn s.T) (hm:s.T.length≤1000):
    Calls Tryz.prog 8 #[.pointer (some ⟨zr,0,none⟩), .agg (Af.enc t).toArray] w fun e w'=>e= .returned (.int .i64 (Alq s.T t))∧Ai2 s (Agb s.T t) zr w w':=by
 have hb:HB w zr 84 (Bg s.sd (.pointer (some ⟨s.z0,0,none⟩)) (.pointer (some ⟨s.z1,0,none⟩)) s.f s.g s.v (.slice s.B s.T.length s.d::[.slice s.X s.xl.length s.xc,s.t0,s.t1,s.s0,s.s1, .slice s.G s.gl.length s.gc, .slice s.C s.D.length s.cc])).toArray :=R.hb;have hB:=R.hB;refine(PN t rfl hm hr ⟨fun⟨ad,e,h⟩=>(R.aB ad e).1 h⟩ rfl).mono ?_;rintro e w' ⟨k,rfl,hp,st,B',d',hb',hB',hBn⟩;obtain rfl:=Wa hp.out;exact⟨rfl,B',d',R.setT st.chg hb' hB' hBn.out⟩
theorem PP {w:World} {zr:Nat} {s:Il} (R:FV w zr s) (nm ecu:List UInt8) (hr:Fn s.T) (hm:s.T.length≤1000):
    Calls Tryz.prog 9 #[.pointer (some ⟨zr,0,none⟩), .string (Al nm), .string (Al ecu)] w fun e w'=>e= .returned (.int .i64 (Alr s.T nm ecu))∧Ai2 s (Agc s.T nm ecu) zr w w':=by
 have hb:HB w zr 84 (Bg s.sd (.pointer (some ⟨s.z0,0,none⟩)) (.pointer (some ⟨s.z1,0,none⟩)) s.f s.g s.v (.slice s.B s.T.length s.d::[.slice s.X s.xl.length s.xc,s.t0,s.t1,s.s0,s.s1, .slice s.G s.gl.length s.gc, .slice s.C s.D.length s.cc])).toArray :=R.hb;have hB:=R.hB;refine(RW nm ecu rfl hm hr ⟨fun⟨ad,e,h⟩=>(R.aB ad e).1 h⟩ ⟨fun ad e h=>(R.aB ad e).1 h⟩ rfl).mono ?_;rintro e w' ⟨k,rfl,hp,st,hb',hB'⟩;obtain rfl:=Wa hp.out;exact⟨rfl,s.B,s.d,R.setT st.chg hb' hB' (fun _ _=> .inl rfl)⟩
theorem OI {w:World} {zr:Nat} {s:Il} (R:FV w zr s) (hm:s.T.length≤1000000):
    Calls Tryz.prog 15 #[.pointer (some ⟨zr,0,none⟩)] w fun e w'=>∃A' c',e= .returned (.slice A' s.T.length c')∧Ag Ab w w'∧HR w' A' (cellsOf s.T)∧Aj w A':=by
 have hb:HB w zr 84 (Bg s.sd (.pointer (some ⟨s.z0,0,none⟩)) (.pointer (some ⟨s.z1,0,none⟩)) s.f s.g s.v (.slice s.B s.T.length s.d::[.slice s.X s.xl.length s.xc,s.t0,s.t1,s.s0,s.s1, .slice s.G s.gl.length s.gc, .slice s.C s.D.length s.cc])).toArray :=R.hb;have hB:=R.hB;exact OS rfl hm
theorem Hr {w:World} {zr:Nat} {s:Il} (R:FV w zr s) (hx:s.xl.length≤1000000) (hg:s.gl.length≤1000000):
    Calls Tryz.prog 13 #[.pointer (some ⟨zr,0,none⟩)] w fun e w'=>∃a b c d A1 c1 A2 c2,e= .returned (.agg #[.slice A1 s.xl.length c1,a,b,c,d, .slice A2 s.gl.length c2])∧Ag Ab w w'∧Ag9 w w' s.LX s.LG s.mt s.ms a b c d A1 A2 s.xl.length s.gl.length:=by
 have hb:HB w zr 84 (Bg s.sd (.pointer (some ⟨s.z0,0,none⟩)) (.pointer (some ⟨s.z1,0,none⟩)) s.f s.g s.v (.slice s.B s.T.length s.d::[.slice s.X s.xl.length s.xc,s.t0,s.t1,s.s0,s.s1, .slice s.G s.gl.length s.gc, .slice s.C s.D.length s.cc])).toArray :=R.hb;exact PO s.xl s.gl s.LX s.LG R.et.v R.es.v R.hX.out.rd R.hG rfl rfl hx hg R.eX.1.symm R.eG.1.symm (fun i hi=>(R.eX.2 i hi).v) (fun i hi=>(R.eG.2 i hi).v)
end Go.Proofs.YtjjhceeookpieaaGreat
end
