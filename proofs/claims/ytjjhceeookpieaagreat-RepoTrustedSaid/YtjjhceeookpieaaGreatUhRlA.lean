/- RlA -/
import Derived.Test.YtjjhceeookpieaaGreatUhBase
import Derived.Lib.Overlaps
import Derived.Lib.AppendZerosOnto
open Go Go.RowKit
namespace Go.Proofs.YtjjhceeookpieaaGreat
theorem Aay {w:World} {e:TypeId} {s n c m:Nat} {A:Option Addr} {xs:List Value} (h:Cm w e s A n c xs) (hm:n+m≤c) (hm0:0<m): ∃ys:List Value,ys.length=m*s∧Cm w e s A (n+m) c (xs++ys):=by
 rcases h.form with⟨_,rfl,rfl,rfl⟩|⟨g,cur,rfl,hb,h3,h4,h5,h6⟩
 ·omega
 have hle:(n+m)*s≤cur.toList.length:=by rw[Array.length_toList,h5];exact Nat.mul_le_mul_right _ hm
 refine⟨(cur.toList.drop (n*s)).take (m*s), ?_,Cm.of_blk hb hm h4 h5 ?_⟩
 ·rw[List.length_take,List.length_drop];rw[Nat.add_mul] at hle;omega
 rw[Nat.add_mul,List.take_add,h6]
theorem CN {w:World} {e:TypeId} {s n c:Nat} {A:Option Addr} {xs:List Value} (h:Cm w e s A n c xs):n≤c:=by
 rcases h.form with⟨_,h1,h2,_⟩|⟨_,_,_,_,h1,_⟩<;>omega
section
variable {P:Program} {ops:Array Oper} {rest:List Oper} {a:Act} {w:World} {Q:Exit→Act→World→Prop} {dst:Option Tmp} {ty:TypeId} {pos:String} {after:Array Edge}
theorem YP {dT sT elem:TypeId} {s:Nat} (hu:P.underlying dT=some (.slice elem)) (hs:(P.info? elem).map (·.size)=some s) {g k dLen dCap sLen sCap m:Nat} {S:Option Addr} {cs:List Value} (hm:Nat.min sLen dLen=m) (hcs:cs.length=m*s) (hsrc:Rd w S cs) (h0:0<m*s) (hc:w.there g k (m*s)) (h1: ∀v∈cs,v.oneCell'=true):
    (Builtin.copy_ #[dT,sT] ty #[.slice (some ⟨g,k,none⟩) dLen dCap, .slice S sLen sCap]).run P w= .ok (goInt m) (w.setCells g k cs):=by
 obtain⟨ad,rfl,_⟩:=hsrc.lt (by omega);have hl:=run_loadCells_list (P:=P) w ad cs (fun j v hj=>by
  obtain⟨ad',e,h⟩:=hsrc j v hj;injection e with e
  subst e;exact h)
 have hst:=run_storeCells_cells (P:=P) g k cs 0 w (fun j hj=>(hc j (by omega)).1) (fun j hj=>(hc j (by omega)).2) h1;simp only[Nat.add_zero] at hst;cases hq:P.info? elem with
 |none=>simp[hq] at hs
 |some i=>
  have hi:i.size=s:=by simpa[hq] using hs
  simp[Builtin.copy_,run_underlying hu,Builtin.lenOf,Builtin.firstCells,sizeOf,typeInfo,hq,hi,hm,←hcs,hl,hst]
theorem YQ {x y:Operand} {t e:TypeId} {size bytes:Nat} {z:Value} (E:Bm P t e size bytes z) {A S:Option Addr} {n c k dLen dCap sLen sCap m:Nat} {xs cs:List Value} (hx:a.eval x= .slice (DD A (k*size)) dLen dCap) (hy:a.eval y= .slice S sLen sCap) (ho:Cm w e size A n c xs) (hr:Rd w S cs) (hm:Nat.min sLen dLen=m) (hcs:cs.length=m*size) (hk:k+m≤n) (hm0:0<m) (h0:0<size) (h1: ∀v∈cs,v.oneCell'=true)
    (h: ∀w',Ag (An A) w w'→HO w' e size A n c (xs.take (k*size)++cs++xs.drop (k*size+m*size))→wpList P ops Q rest (a.put dst (goInt m)) w'):
    wpList P ops Q (⟨dst, .call {callee:= .builtin .copy,args:=#[x,y],argTypes:=#[t,t]},ty,pos,after,none⟩::rest) a w:=by
 have hms:0<m*size:=Nat.mul_pos hm0 h0;have hsz:(P.info? e).map (·.size)=some size:=by
  obtain⟨i,hi,_,hs,_⟩:=info_parts E.out.info;rw[hi];simp[hs]
 have hkm:k*size+m*size≤xs.length:=by rw[ho.len,←Nat.add_mul];exact Nat.mul_le_mul_right _ hk
 obtain⟨g,rfl,q1,q2,q3⟩:=CP ho (k:=k*size) (m:=m*size) hcs hkm hms;rw[Dp,DQ] at hx;refine Av rfl (w':=w.setCells g (k*size) cs) (by
  simp only[execOp,resolve,invoke,builtin,Sem.run_bind,Sem.run_pure,Result.andThen_ok,List.map_toArray,List.map_cons,List.map_nil,hx,hy,YP E.out.under hsz hm hcs hr hms q1 h1]) (h _ ⟨q3⟩ ⟨q2⟩)
theorem JV {x y:Operand} {t e:TypeId} {size bytes:Nat} {z:Value} {A S:Option Addr} {c0 k dLen dCap sLen sCap n c m:Nat} {xs cs:List Value} (hx:a.eval x= .slice (Gs A k c0 size) dLen dCap) (hy:a.eval y= .slice S sLen sCap) (E:Bm P t e size bytes z) (ho:HO w e size A n c xs) (hr:HR w S cs) (hkc:k<c0) (hm:min sLen dLen=m) (hcs:cs.length=m*size) (hk:k+m≤n) (hm0:0<m) (h1: ∀v∈cs,v.oneCell'=true)
    (h: ∀w',Ag (An A) w w'→HO w' e size A n c (xs.take (k*size)++cs++xs.drop (k*size+m*size))→wpList P ops Q rest (a.put dst (goInt m)) w'):
    wpList P ops Q (⟨dst, .call {callee:= .builtin .copy,args:=#[x,y],argTypes:=#[t,t]},ty,pos,after,none⟩::rest) a w:=by
 have e1:Gs A k c0 size=DD A (k*size):=by unfold Gs;rw[if_neg (by omega)]
 rw[e1] at hx;exact YQ E hx hy ho.out hr.out hm hcs hk hm0 E.out.pos h1 h
theorem RV {x y:Operand} {t tn e:TypeId} {size bytes:Nat} {z:Value} {A:Option Addr} {i c kk n:Nat} {xs:List Value} (hx:a.eval x= .slice A i c) (hy:a.eval y= .int .i64 (kk:Int)) (E:Bm P t e size bytes z) (htn:P.underlying tn=some (.int .i64)) (ho:Cm w e size A n c xs) (hi:i≤n) (hn0:0<n) (hk0:0<kk) (hg:c<i+kk) (hlim:i+kk≤1000000000) (hb:bytes≤100000)
    (h: ∀c' w' ys,Ag Ab w w'→HO w' e size (some ⟨w.heap.size,0,none⟩) (i+kk) c' (xs.take (i*size)++ys)→ys.length=kk*size→i+kk≤c'→wpList P ops Q rest (a.put dst (.slice (some ⟨w.heap.size,0,none⟩) (i+kk) c')) w'):
    wpList P ops Q (⟨dst, .call {callee:= .builtin .append,args:=#[x,y],argTypes:=#[t,tn]},ty,pos,after,none⟩::rest) a w:=by
 obtain⟨i0,hi0,hz0,hs0,hb0⟩:=info_parts E.out.info;have hpos:=E.out.pos;have hzs:=E.out.zsize;have hxl:=ho.len;rcases ho.form with⟨_,h1,_⟩|⟨g,cur,rfl,hbk,h3,h4,h5,h6⟩
 ·omega
 have hle:i*size≤xs.length:=by rw[hxl];exact Nat.mul_le_mul_right _ hi
 have hbytes:(i+kk)*i0.bytes≤140737488355328:=by rw[hb0];exact Nat.le_trans (Nat.mul_le_mul hlim hb) (by decide)
 have hold:(Builtin.firstCells i0.size i (.slice (some ⟨g,0,none⟩) i c)).run P w.drew= .ok (xs.take (i*size)).toArray w.drew:=by
  rw[hs0];refine run_firstCells_some (w:=w.drew) size i ⟨g,0,none⟩ i c (xs.take (i*size)) (by rw[List.length_take];omega) (fun j v hj=> ?_);obtain⟨ad,e1,h2⟩:=(ho.rd.take (i*size)) j v hj;injection e1 with e1
  subst e1;exact h2
 have hrun:=Lib.run_append_grow_zeros w t tn ty e i0 z .i64 .i64 E.out.under htn hi0 hz0 (some ⟨g,0,none⟩) i c (xs.take (i*size)) hold kk hk0 (by rw[hs0];exact hpos) hg (by omega) (by have h7:kk*i0.bytes≤(i+kk)*i0.bytes:=Nat.mul_le_mul_right _ (Nat.le_add_left _ _);omega) (growslice_fits hg hbytes);have hge:=grownCap_ge w (i+kk) c e;have hcm:=grownCap_le_maxLen w (i+kk) c e (by unfold maxLen;omega);obtain⟨G,hG⟩: ∃G,G=grownCap w (i+kk) c e:=⟨_,rfl⟩;rw[←hG] at hrun hge hcm;obtain⟨ys,hys⟩: ∃ys:List Value,ys=(Builtin.zeroCells z.cells kk).toList :=⟨_,rfl⟩;have hyl:ys.length=kk*size:=by rw[hys,Array.length_toList,size_zeroCells,hzs]
 have hG2:kk*size+(G -(i+kk))*size+i*size=G*size:=by
  rw[←Nat.add_mul,←Nat.add_mul]
  congr 1
  omega
 refine Av rfl (w':=w.drew.alloc (.cells ((xs.take (i*size)).toArray ++Builtin.zeroCells z.cells kk++Builtin.zeroCells z.cells (G -(i+kk))) e)) (by
  simp only[execOp,resolve,invoke,builtin,Sem.run_bind,Sem.run_pure,Result.andThen_ok,List.map_toArray,List.map_cons,List.map_nil,hx,hy,hrun]) (h G _ ys ⟨((Au.refl Ab w).drew).alloc _⟩ ⟨?_⟩ hyl hge)
 refine Cm.of_blk (AT.new w.drew e _) hge hcm ?_ ?_
 ·simp only[Array.size_append,List.size_toArray,size_zeroCells,hzs,List.length_take];omega
 rw[Array.toList_append,Array.toList_append,←hys];refine List.take_left' ?_;rw[List.length_append,hyl,List.length_take,Nat.add_mul];omega
end
end Go.Proofs.YtjjhceeookpieaaGreat
