/- UhKyA, UhKyB, UhKyC, UhKyD, UhKyE, UhKyM, UhKyN, UhKyP, UhMkD, UhMkQm, UhKyT -/
import Derived.Test.YtjjhceeookpieaaGreatUhBase
import Derived.Test.YtjjhceeookpieaaGreatUhOtD
import Derived.Test.YtjjhceeookpieaaGreatUhMkA
import Derived.Test.YtjjhceeookpieaaGreatUhZ
import Derived.Test.YtjjhceeookpieaaGreatUhEq
import Derived.Test.YtjjhceeookpieaaGreatUhJoin
import Derived.Test.YtjjhceeookpieaaGreatUhOcEl
section
open Go Go.RowKit
namespace Go.Proofs.YtjjhceeookpieaaGreat
theorem Rz {α:Type}: ∀(l m:List α) (k:Nat),Eg (l++m) (l.length+k)=Eg m k
 |[],m,k=>by simp
 |x::l,m,k=>by
  rw[List.cons_append,List.length_cons,show l.length+1+k=(l.length+k)+1 by omega,Eg,Rz l m k]
theorem HR.ofBlkL {w:World} {z:Nat} {t:TypeId} {cs:Array Value} (h:HB w z t cs):HR w (some ⟨z,0,none⟩) cs.toList:=⟨fun k u hk=>by
 refine⟨_,rfl, ?_⟩;rw[DQ,h.out.cell k];simpa using hk⟩
theorem Al4 (g k:Nat):AN (some ⟨g,0,none⟩) k= .pointer (some ⟨g,k,none⟩):=by rw[AN,Dp,DQ]
def BQ (seed:Ak) (used:Int) (gr:Bool) (tree:List Ak):List Value:=bs seed.l++(.int .i64 used:: .bool gr::cellsOf tree)
def BF (seed:Ak):List Ak:=(List.range 16).map fun(i:Nat)=>IF seed (i:Int)
theorem CV (seed:Ak):(BF seed).length =16:=by simp[BF]
section
variable {seed:Ak} {used:Int} {gr:Bool} {tree:List Ak}
theorem Kd (h:Ak):(bs h.l).length =32:=by rw[Am,Ak.len]
theorem Ig (ht:tree.length=16):(BQ seed used gr tree).length =546:=by
 rw[BQ,List.length_append,Kd,List.length_cons,List.length_cons,AB,ht];rfl
theorem Aab:Eg (BQ seed used gr tree).toArray.toList 32=some (.int .i64 used):=by
 have h:=Rz (bs seed.l) (.int .i64 used:: .bool gr::cellsOf tree) 0;rw[Kd] at h;exact h
theorem Yo:Eg (BQ seed used gr tree).toArray.toList 33=some (.bool gr):=by
 have h:=Rz (bs seed.l) (.int .i64 used:: .bool gr::cellsOf tree) 1;rw[Kd] at h;exact h
theorem Aac:((BQ seed used gr tree).drop 0).take 32=bs seed.l:=by
 rw[List.drop_zero,BQ,List.take_left' (Kd seed)]
theorem Aad:(BQ seed used gr tree).drop 34=cellsOf tree:=by
 have h:(BQ seed used gr tree).drop (32+2)=(Value.int .i64 used:: .bool gr::cellsOf tree).drop 2:=by
  rw[←List.drop_drop,BQ,List.drop_left' (Kd seed)]
 exact h
theorem Aae (u:Int):(BQ seed used gr tree).toArray.setIfInBounds 32 (.int .i64 u)=(BQ seed u gr tree).toArray :=by
 apply Array.ext';rw[Array.toList_setIfInBounds];show(bs seed.l++(Value.int .i64 used:: .bool gr::cellsOf tree)).set 32 (.int .i64 u)=_;rw[List.set_append,if_neg (by rw[Kd];omega),Kd];rfl
theorem Aaf (b:Bool):(BQ seed used gr tree).toArray.setIfInBounds 33 (.bool b)=(BQ seed used b tree).toArray :=by
 apply Array.ext';rw[Array.toList_setIfInBounds];show(bs seed.l++(Value.int .i64 used:: .bool gr::cellsOf tree)).set 33 (.bool b)=_;rw[List.set_append,if_neg (by rw[Kd];omega),Kd];rfl
theorem Aag (i:Nat) (h:Ak) (hi:i<tree.length):(BQ seed used gr tree).take (34+i*32)++bs h.l++(BQ seed used gr tree).drop (34+i*32+32)=BQ seed used gr (tree.set i h):=by
 have e0:BQ seed used gr tree=(bs seed.l++[.int .i64 used, .bool gr])++cellsOf tree:=by simp[BQ]
 have e1:(bs seed.l++[Value.int .i64 used, .bool gr]).length =34:=by rw[List.length_append,Kd];rfl
 have e2:BQ seed used gr (tree.set i h)=(bs seed.l++[.int .i64 used, .bool gr])++cellsOf (tree.set i h):=by simp[BQ]
 have e3:=FM tree i h hi;rw[e2,←e3,e0];rw[List.take_append,List.take_of_length_le (by rw[e1];omega),e1,show 34+i*32 -34=i*32 by omega];rw[List.drop_append,List.drop_eq_nil_of_le (by rw[e1];omega),e1,show 34+i*32+32 -34=i*32+32 by omega];simp only[List.append_assoc,List.nil_append];rfl
end
class AH (w:World) (z:Nat) (seed:outParam Ak) (used:outParam Int):Prop where
 out: ∃gr tree,tree.length=16∧(gr=true→tree=BF seed)∧HB w z 130 (BQ seed used gr tree).toArray
def KI (z:Nat) (seed:Ak) (used:Int):World→Prop:=fun w=>AH w z seed used
instance AH.step (S:Nat→Prop) (w w':World) (z:Nat) (seed:Ak) (used:Int) [s:Ag S w w'] [h:AH w z seed used] [o:As S z]:AH w' z seed used:=⟨by
 obtain⟨gr,tree,h1,h2,h3⟩:=h.out;exact⟨gr,tree,h1,h2,inferInstance⟩⟩
instance KI.of (w:World) (z:Nat) (seed:Ak) (used:Int) [h:AH w z seed used]:Inv (KI z seed used) w:=⟨h⟩
instance (priority:=400) AH.ofI (w:World) (z:Nat) (seed:Ak) (used:Int) (T:Nat→Prop) (wd:World) [h:IT (KI z seed used) T wd w]:AH w z seed used:=h.inv
theorem AH.lt {w:World} {z:Nat} {seed:Ak} {used:Int} (h:AH w z seed used):z<w.heap.size:=by
 obtain⟨_,_,_,_,h3⟩:=h.out;exact h3.out.lt
instance As.bornKey (w:World) (z g:Nat) (seed:Ak) (used:Int) [b:AW w z] [h:AH w g seed used]:As (only z) g:=⟨fun e=>by
 have e':g=z:=e;have:=h.lt;rw[e',b.eq] at this;omega⟩
instance BW.newKey (w:World) (z:Nat) (A:Option Addr) (seed:Ak) (used:Int) [b:Aj w A] [h:AH w z seed used]:BW (only z) A:=⟨fun ad e hk=>by
 have h1:=b.out ad e;have h2:=h.lt;have hk':ad.block=z:=hk;omega⟩
instance Ff.newKey (w:World) (z:Nat) (A:Option Addr) (vs:List Value) (seed:Ak) (used:Int) [b:Aj w A] [h:AH w z seed used]:Ff (only z) A vs:=⟨fun _ ad e hk=>by
 have h1:=b.out ad e;have h2:=h.lt;have hk':ad.block=z:=hk;omega⟩
instance As.laterKey (w:World) (z g:Nat) (seed:Ak) (used:Int) [b:AW w g] [h:AH w z seed used]:As (only z) g:=⟨fun e=>by
 have e':g=z:=e;have:=h.lt;rw[←e',b.eq] at this;omega⟩
section
variable {P:Program} {ops:Array Oper} {rest:List Oper} {a:Act} {w:World} {Q:Exit→Act→World→Prop} {dst:Option Tmp} {ty:TypeId} {pos:String} {after:Array Edge} {gd:Option (Nat×Bool)}
variable {seed:Ak} {used:Int} {gr:Bool} {tree:List Ak}
theorem Ls {t:TypeId} {x:Operand} {g:Nat} (hx:a.eval x= .pointer (some ⟨g,0,none⟩)) (hb:AH w g seed used) (ht:Cl P t 32):
    (execOp a.eval ⟨dst, .load t x,ty,pos,after,gd⟩).run P w= .ok (.value (.agg (Aw seed.l))) w:=by
 obtain⟨gr,tree,_,_,hb⟩:=hb.out;have hr:=HR.ofBlkL hb;show((Instr.loadAt t (a.eval x))>>=fun v=>pure (Next.value v)).run P w=_;rw[hx,←Al4,Sem.run_bind,CU (k:=0) (cs:=bs seed.l) hr.out ht (Kd seed) Aac (by decide)];rfl
theorem Gt {t:TypeId} {x:Operand} {g:Nat} (hx:a.eval x= .pointer (some ⟨g,32,none⟩)) (hb:AH w g seed used) (ht:AL P t):
    (execOp a.eval ⟨dst, .load t x,ty,pos,after,gd⟩).run P w= .ok (.value (.int .i64 used)) w:=by
 obtain⟨gr,tree,_,_,hb⟩:=hb.out;exact Ai hx hb ht Aab
theorem Yp {t:TypeId} {x:Operand} {g:Nat} (hx:a.eval x= .pointer (some ⟨g,0,none⟩)) (hb:AH w g seed used) (ht:Cl P t 32)
    (h:wpList P ops Q rest (a.put dst (.agg (Aw seed.l))) w):wpList P ops Q (⟨dst, .load t x,ty,pos,after,none⟩::rest) a w:=Av rfl (Ls hx hb ht) h
theorem Mg {t:TypeId} {x:Operand} {g:Nat} (hx:a.eval x= .pointer (some ⟨g,32,none⟩)) (hb:AH w g seed used) (ht:AL P t)
    (h:wpList P ops Q rest (a.put dst (.int .i64 used)) w):wpList P ops Q (⟨dst, .load t x,ty,pos,after,none⟩::rest) a w:=Av rfl (Gt hx hb ht) h
theorem Yr {t:TypeId} {x y:Operand} {g:Nat} {u:Int} (hx:a.eval x= .pointer (some ⟨g,32,none⟩)) (hy:a.eval y= .int .i64 u) (hb:AH w g seed used) (ht:AL P t)
    (h: ∀w',Ag (only g) w w'→AH w' g seed u→wpList P ops Q rest (a.put dst undef) w'):wpList P ops Q (⟨dst, .store t x y,ty,pos,after,none⟩::rest) a w:=by
 obtain⟨gr,tree,h1,h2,hb⟩:=hb.out;exact AU hx hy hb rfl (by show 32<(BQ seed used gr tree).length;rw[Ig h1];decide) (fun w' s hb'=>h w' s ⟨gr,tree,h1,h2,by rw[←Aae];exact hb'⟩)
theorem Og {t:TypeId} {x:Operand} {g:Nat} (hx:a.eval x= .pointer (some ⟨g,33,none⟩)) {tb:TypeId} (hb:HB w g tb (BQ seed used gr tree).toArray) (ht:AL P t)
    (h:wpList P ops Q rest (a.put dst (.bool gr)) w):wpList P ops Q (⟨dst, .load t x,ty,pos,after,none⟩::rest) a w:=Av rfl (Ai hx hb ht Yo) h
theorem Ys {t:TypeId} {x y:Operand} {g:Nat} {b:Bool} (hx:a.eval x= .pointer (some ⟨g,33,none⟩)) (hy:a.eval y= .bool b) {tb:TypeId} (hb:HB w g tb (BQ seed used gr tree).toArray) (ht:AL P t) (hl:tree.length=16)
    (h: ∀w',Ag (only g) w w'→HB w' g tb (BQ seed used b tree).toArray →wpList P ops Q rest (a.put dst undef) w'):wpList P ops Q (⟨dst, .store t x y,ty,pos,after,none⟩::rest) a w:=
 AU hx hy hb rfl (by show 33<(BQ seed used gr tree).length;rw[Ig hl];decide) (fun w' s hb'=>h w' s (by rw[←Aaf];exact hb'))
theorem Yt {t:TypeId} {x y:Operand} {g i:Nat} {hh:Ak} (hx:a.eval x= .pointer (some ⟨g,34+i*32,none⟩)) (hy:a.eval y= .agg (Aw hh.l)) {tb:TypeId} (hb:HB w g tb (BQ seed used gr tree).toArray) (ht:Cl P t 32) (hl:tree.length=16) (hi:i<16)
    (h: ∀w',Ag (only g) w w'→HB w' g tb (BQ seed used gr (tree.set i hh)).toArray →wpList P ops Q rest (a.put dst undef) w'):wpList P ops Q (⟨dst, .store t x y,ty,pos,after,none⟩::rest) a w:=by
 have hL:=Ig (seed:=seed) (used:=used) (gr:=gr) hl;have ho:Cm w tb 546 (some ⟨g,0,none⟩) 1 1 (BQ seed used gr tree):=
  Cm.of_blk hb.out (Nat.le_refl _) (by decide) (by simp[hL]) (by show(BQ seed used gr tree).take (1*546)=_;exact List.take_of_length_le (by rw[hL];decide))
 obtain⟨g',hA,h1,h2,h3⟩:=CP ho (k:=34+i*32) (cs:=bs hh.l) (m:=32) (Kd hh) (by rw[hL];omega) (by decide);obtain rfl:g'=g:=by injection hA with hA;injection hA with hA;exact hA.symm
 rw[Aag i hh (by omega)] at h2;refine Ep rfl (w':=w.setCells g' (34+i*32) (bs hh.l)) ?_ (h _ ⟨⟨h3.os,h3.tape,h3.output,h3.size,fun x hx hn=>h3.block x hx (fun⟨ad,e,e2⟩=>hn (by injection e with e;subst e;exact e2.symm))⟩⟩ ⟨?_⟩)
 ·have hz:(Aw hh.l).size =32:=hh.size;show((Instr.storeAt t (a.eval x) (a.eval y))>>=fun _=>pure Next.skip).run P w=_;rw[hx,hy,Sem.run_bind,run_storeAt_mid (P:=P) w g' (34+i*32) t (Aw hh.l) (by rw[hz];exact h1) (by rw[hz];exact ht.size) (Ek _)];rfl
 have hl2:(BQ seed used gr (tree.set i hh)).length =546:=Ig (by rw[List.length_set,hl]);rcases h2.form with⟨hn,_⟩|⟨g3,cur,e,hb2,_,_,hsz,htk⟩
 ·cases hn
 injection e with e
 injection e with e
 subst e;have:cur=(BQ seed used gr (tree.set i hh)).toArray :=by
  apply Array.ext';rw[List.take_of_length_le (by rw[Array.length_toList,hsz];exact Nat.le_refl _)] at htk;simpa using htk
 rw[←this];exact hb2
theorem VE {t e:TypeId} {x ix:Operand} {g k s m:Nat} {i:Nat} (hx:a.eval x= .pointer (some ⟨g,k,none⟩)) (hi:a.eval ix= .int .i64 (i:Int)) (hu:P.underlying t=some (.array m e)) (hs:(P.info? e).map (·.size)=some s) (h1:i<m):
    (execOp a.eval ⟨dst, .indexAddr t x ix,ty,pos,after,gd⟩).run P w= .ok (.value (.pointer (some ⟨g,k+i*s,none⟩))) w:=by
 show((Instr.indexAt t (a.eval x) (a.eval ix))>>=fun v=>pure (Next.value v)).run P w=_;rw[hx,hi];cases hq:P.info? e with
 |none=>rw[hq] at hs;simp at hs
 |some j=>
  rw[hq] at hs;simp at hs;have h2:(i:Int)<m:=by omega
  simp[Instr.indexAt,asIntOf,run_underlying hu,sizeOf,typeInfo,hq,hs,h1,Instr.sureAddr,Addr.add]
theorem TC {t e:TypeId} {x ix:Operand} {g k s m:Nat} {i:Nat} (hx:a.eval x= .pointer (some ⟨g,k,none⟩)) (hi:a.eval ix= .int .i64 (i:Int)) (hu:P.underlying t=some (.array m e)) (hs:(P.info? e).map (·.size)=some s) (h1:i<m)
    (h:wpList P ops Q rest (a.put dst (.pointer (some ⟨g,k+i*s,none⟩))) w):wpList P ops Q (⟨dst, .indexAddr t x ix,ty,pos,after,none⟩::rest) a w:=Av rfl (VE hx hi hu hs h1) h
theorem Hc {t e:TypeId} {x:Operand} {g k m s:Nat} (hx:a.eval x= .pointer (some ⟨g,k,none⟩)) (hu:P.underlying t=some (.array m e)) (hs:(P.info? e).map (·.size)=some s)
    (h:wpList P ops Q rest (a.put dst (.slice (some ⟨g,k,none⟩) m m)) w):wpList P ops Q (⟨dst, .slice t x none none none,ty,pos,after,none⟩::rest) a w:=
 Av rfl (by
  show((Instr.sliceAt t (a.eval x) none none none)>>=fun v=>pure (Next.value v)).run P w=_;rw[hx];cases hq:P.info? e with
  |none=>rw[hq] at hs;simp at hs
  |some j=>
   rw[hq] at hs;simp at hs;simp[Instr.sliceAt,run_underlying hu,Instr.sureAddr,Instr.sliceBounds,sizeOf,typeInfo,hq,Be]) h
end
theorem HR.keyTree {w:World} {z:Nat} {t:TypeId} {seed:Ak} {used:Int} {gr:Bool} {tree:List Ak} (h:HB w z t (BQ seed used gr tree).toArray):HR w (some ⟨z,34,none⟩) (cellsOf tree):=⟨fun k u hk=>by
 have hr:=HR.ofBlkL h;have e:(BQ seed used gr tree).toArray.toList[34+k]? =some u:=by
  show(BQ seed used gr tree)[34+k]? =some u;rw[←List.getElem?_drop,Aad];exact hk
 obtain⟨ad,e1,e2⟩:=hr.out _ _ e;injection e1 with e1
 subst e1;refine⟨_,rfl, ?_⟩;rw[DQ] at e2;rw[Addr.add_mid];exact e2⟩
end Go.Proofs.YtjjhceeookpieaaGreat
end
section
set_option maxRecDepth 100000
open Go Go.RowKit
namespace Go.Proofs.YtjjhceeookpieaaGreat
class TD (w:outParam World) (g:Nat):Prop where
 out:w.heap.size≤g
instance Cn.newB (w0 w:World) (g:Nat) [b:TD w g] [n:Nw w0 w]:Cn w0 (only g):=⟨fun k h=>by
 have h':k=g:=h;rw[h'];exact Nat.le_trans n.out.size b.out⟩
instance (priority:=900) As.newB1 (w:World) (g z:Nat) (t:TypeId) (cs:Array Value) [b:TD w g] [h:HB w z t cs]:As (only g) z:=⟨fun e=>by
 have e':z=g:=e;have:=h.out.lt;have:=b.out;omega⟩
instance (priority:=900) As.newB2 (w:World) (g z:Nat) (seed:Ak) (used:Int) [b:TD w g] [h:AH w z seed used]:As (only g) z:=⟨fun e=>by
 have e':z=g:=e;have:=h.lt;have:=b.out;omega⟩
instance (priority:=900) As.newB3 (w:World) (g z:Nat) (t:TypeId) (cs:Array Value) [b:TD w g] [h:HB w z t cs]:As (only z) g:=⟨fun e=>by
 have e':g=z:=e;have:=h.out.lt;have:=b.out;omega⟩
instance (priority:=900) Ff.newB1 (w:World) (g:Nat) (A:Option Addr) (vs:List Value) [b:TD w g] [h:HR w A vs]:Ff (only g) A vs:=⟨fun hne ad e hk=>by
 have h1:=DC h.out hne e;have hk':ad.block=g:=hk;have:=b.out;omega⟩
instance Al5:Eb Tryz.prog 132 #[.int .i64 0, .slice none 0 0, .slice none 0 0]:=⟨.agg #[.int .i64 0, .slice none 0 0, .slice none 0 0],fun _=>by kernel_rfl,rfl⟩
instance Al6:Cl Tryz.prog 132 3:=⟨by kernel_rfl,_,Tryz.underlying132,rfl⟩
instance Al7:AL Tryz.prog 28:=⟨fun _=>by kernel_rfl,fun _=>by kernel_rfl⟩
instance Al8:AL Tryz.prog 4:=⟨fun _=>by kernel_rfl,fun _=>by kernel_rfl⟩
def FQ:List Ak:=List.replicate 16 Aq
theorem Aah (s0 seed:Ak) (u:Int) (g:Bool) (tr:List Ak):GH 0 (Aw seed.l) (BQ s0 u g tr).toArray =(BQ seed u g tr).toArray :=by
 apply Array.ext';show(BQ s0 u g tr).take 0++bs seed.l++(BQ s0 u g tr).drop (0+(Aw seed.l).size)=BQ seed u g tr;rw[show(Aw seed.l).size =32 from seed.size,Nat.zero_add,BQ,List.drop_left' (Kd s0)];rfl
theorem Aai (seed:Ak) (u u0:Int) (g:Bool) (tr:List Ak):GH 32 #[.int .i64 u] (BQ seed u0 g tr).toArray =(BQ seed u g tr).toArray :=by
 apply Array.ext';show(BQ seed u0 g tr).take 32++[.int .i64 u]++(BQ seed u0 g tr).drop (32+1)=BQ seed u g tr;rw[BQ,List.take_left' (Kd seed),←List.drop_drop,List.drop_left' (Kd seed)];simp[BQ]
theorem Mh:FQ.length=16:=by simp[FQ]
theorem VF (seed:Ak) (u:Int) (w:World):(Instr.build 130 #[(0, .agg (Aw seed.l)),(1, .int .i64 u)]).run Tryz.prog w= .ok (.agg (BQ seed u false FQ).toArray) w:=by
 refine Cu Tryz.underlying130 (zv:= .agg (BQ Aq 0 false FQ).toArray) (fun _=>by kernel_rfl) (places:=#[(0,32),(32,1),(33,1),(34,512)]) (fun _=>by kernel_rfl) ?_ w;have h1:(BQ Aq 0 false FQ).toArray.size =546:=by show(BQ Aq 0 false FQ).length =_;exact Ig Mh
 have h2:(BQ seed 0 false FQ).toArray.size =546:=by show(BQ seed 0 false FQ).length =_;exact Ig Mh
 show Instr.fill _ (BQ Aq 0 false FQ).toArray [(0, .agg (Aw seed.l)),(1, .int .i64 u)]=_;rw[AZ _ _ 0 _ _ (off:=0) (size:=32) rfl (by show(Aw seed.l).size =32;exact seed.size) (by rw[h1];decide)];rw[show GH 0 (Value.agg (Aw seed.l)).cells (BQ Aq 0 false FQ).toArray =(BQ seed 0 false FQ).toArray from Aah Aq seed 0 false FQ];rw[AZ _ _ 1 _ _ (off:=32) (size:=1) rfl rfl (by rw[h2];decide)];rw[show GH 32 (Value.int .i64 u).cells (BQ seed 0 false FQ).toArray =(BQ seed u false FQ).toArray from Aai seed u 0 false FQ];rfl
theorem Yu (seed:Ak) (used:Int) (w:World):
    Calls Tryz.prog 47 #[.agg (Aw seed.l), .int .i64 used] w fun e w'=>∃g,e= .returned (.pointer (some ⟨g,0,none⟩))∧Ag Ab w w'∧TD w g∧AH w' g seed (min (max used 0) 16):=by
 have kb:=fun w=>VF seed (min (max used 0) 16) w
 go_enter Tryz.func47,Tryz.ntmps47;go_wp2_with (first|(refine Ji (kb _) ?_)|(refine Bv 2 ?_;intro zs wzs _ _ _)|(refine Bv 10 ?_;intro zk wzk _ _ _)|(refine Cp ?_)|((with_reducible apply Rn);exact rfl;exact rfl)|((with_reducible apply Lf);exact rfl;exact rfl));have hk:HB wzk zk 130 (BQ seed (min (max used 0) 16) false FQ).toArray :=inferInstance;have hn:TD w zk:=⟨by
  have h1:=(inferInstance:AW wzs zk).eq;have h2:=(Aa (w0:=w) (w:=wzs)).chg.size;omega⟩
 have hka:AH wzk zk seed (min (max used 0) 16):=⟨false,FQ,Mh,(fun h=>by cases h),hk⟩;go_ret;exact⟨zk,rfl,Aa,hn,hka⟩
theorem IA {zk:Nat} {seed:Ak} {used:Int} {w:World} [hk:AH w zk seed used]:
    Calls Tryz.prog 27 #[.pointer (some ⟨zk,0,none⟩)] w fun e w'=>e= .returned (.int .i64 used)∧Ag Ab w w':=by
 go_enter Tryz.func27,Tryz.ntmps27;go_wp2_with (first|((with_reducible apply(Mg (t:=3)));exact rfl;infer_instance;infer_instance));go_ret;exact⟨rfl,Aa⟩
def Anz:Ak:=⟨1::List.replicate 31 0,rfl⟩
end Go.Proofs.YtjjhceeookpieaaGreat
end
section
set_option maxRecDepth 100000
open Go Go.RowKit
namespace Go.Proofs.YtjjhceeookpieaaGreat
instance HO.one (w:World) (z:Nat) (e:TypeId) (x:UInt8) [h:HB w z e (Aw [x])]:HO w e 1 (some ⟨z,0,none⟩) 1 1 (bs [x]):=⟨Cm.of_blk h.out (Nat.le_refl _) (by decide) rfl rfl⟩
def Ve (leaf:Int) (n m:Nat):Bool:=decide (0≤leaf)&&decide (leaf<16)&&decide (n=36)&&decide (m=4)
theorem Ahn (leaf:Int) (n m:Nat) (h: ¬0≤leaf):Ve leaf n m=false:=by simp[Ve,h]
theorem Aho (leaf:Int) (n m:Nat) (_:0≤leaf) (h: ¬leaf<16):Ve leaf n m=false:=by simp[Ve,h]
theorem Ahp (leaf:Int) (n m:Nat) (_:0≤leaf) (_:leaf<16) (h: ¬n=36):Ve leaf n m=false:=by simp[Ve,h]
theorem Ahq (leaf:Int) (n m:Nat) (_:0≤leaf) (_:leaf<16) (_:n=36) (h: ¬m=4):Ve leaf n m=false:=by simp[Ve,h]
theorem Ahr (leaf:Int) (n m:Nat) (h1:0≤leaf) (h2:leaf<16) (h3:n=36) (h4:m=4):Ve leaf n m=true:=by simp[Ve,h1,h2,h3,h4]
theorem QB {leaf:Int} {A B:Option Addr} {n c m d:Nat} (w:World):
    Calls Tryz.prog 229 #[.agg #[.int .i64 leaf, .slice A n c, .slice B m d]] w fun e w'=>e= .returned (.bool (Ve leaf n m))∧Ag Ab w w':=by
 have q1:=Ahn leaf n m;have q2:=Aho leaf n m;have q3:=Ahp leaf n m;have q4:=Ahq leaf n m;have q5:=Ahr leaf n m;by_cases h1:0≤leaf;rotate_left
 ·have e1: ¬(0:Int)≤leaf:=by omega
  rw[q1 h1];clear q1 q2 q3 q4 q5 h1;go_enter Tryz.func229,Tryz.ntmps229;go_wp2_with (first|go_skip|(refine Bv 1 ?_;intro zs wzs _ _ _)|(refine GU ?_));go_ret;exact⟨rfl,Aa⟩
 have e1:(0:Int)≤leaf:=by omega
 by_cases h2:leaf<16;rotate_left
 ·have e2: ¬leaf<(16:Int):=by omega
  rw[q2 h1 h2];clear q1 q2 q3 q4 q5 h1 h2;go_enter Tryz.func229,Tryz.ntmps229;go_wp2_with (first|go_skip|(refine Bv 1 ?_;intro zs wzs _ _ _)|(refine Ct ?_)|(refine GU ?_));go_ret;exact⟨rfl,Aa⟩
 have e2:leaf<(16:Int):=by omega
 by_cases h3:n=36;rotate_left
 ·have e3:((n:Int)==36)=false:=by simp;omega
  rw[q3 h1 h2 h3];clear q1 q2 q3 q4 q5 h1 h2 h3;go_enter Tryz.func229,Tryz.ntmps229;go_wp2_with (first|go_skip|(refine Bv 1 ?_;intro zs wzs _ _ _)|(refine Ct ?_)|(refine GU ?_));go_ret;exact⟨rfl,Aa⟩
 have e3:((n:Int)==36)=true:=by simp;omega
 by_cases h4:m=4;rotate_left
 ·have e4:((m:Int)==4)=false:=by simp;omega
  rw[q4 h1 h2 h3 h4];clear q1 q2 q3 q4 q5 h1 h2 h3 h4;go_enter Tryz.func229,Tryz.ntmps229;go_wp2_with (first|(refine Bv 1 ?_;intro zs wzs _ _ _)|(refine Ct ?_)|(refine GU ?_));go_ret;exact⟨rfl,Aa⟩
 have e4:((m:Int)==4)=true:=by simp;omega
 rw[q5 h1 h2 h3 h4];clear q1 q2 q3 q4 q5 h1 h2 h3 h4;go_enter Tryz.func229,Tryz.ntmps229;go_wp2_with (first|(refine Bv 1 ?_;intro zs wzs _ _ _)|(refine Ct ?_)|(refine GU ?_));go_ret;exact⟨rfl,Aa⟩
def An9 (la:Int) (l1 l2:List Ak) (lb:Int) (m1 m2:List Ak):Bool:=decide (la=lb)&&decide (l1=m1)&&decide (l2=m2)
def Na (r:Ak):Ak:=Gw (4::r.l)
theorem TE {zr:Nat} {A B:Option Addr} {n c m d:Nat} {xs ys:List UInt8} {w:World} {t:TypeId} [hb:HB w zr t #[.slice A n c, .slice B m d]] [h1:HR w A (bs xs)] [h2:HR w B (bs ys)] (hx:xs.length=n) (hy:ys.length=m) (hm:n+m≤1000000000):
    Calls Tryz.prog 96 #[.slice (some ⟨zr,0,none⟩) 2 2] w fun e w'=>∃A' n' c',e= .returned (.slice A' n' c')∧Ag Ab w w'∧HR w' A' (bs (xs++ys))∧(xs++ys).length =n'∧n'≤c':=by
 have HX:=Lib.hid hx;have HY:=Lib.hid hy;clear hx hy;go_enter Tryz.func96,Tryz.ntmps96;go_wp2_with fail;refine(MZ (some ⟨zr,0,none⟩) 2 2 [⟨A,c,xs⟩,⟨B,d,ys⟩] _ ?_ rfl (Nat.le_refl _) ?_ ?_ (by decide)).mono ?_
 ·show Rd _ _ [.slice A xs.length c, .slice B ys.length d];rw[HX.out,HY.out];exact(HR.ofBlkL hb).out
 ·intro r hr;simp only[List.mem_cons,List.not_mem_nil,or_false] at hr;rcases hr with rfl|rfl
  ·exact h1.out
  exact h2.out
 ·have e1:=HX.out;have e2:=HY.out;simp[Lib.lens];omega
 rintro e w6 ⟨A6,n6,c6,rfl,h6,hc6,hg6⟩;rw[show([⟨A,c,xs⟩,⟨B,d,ys⟩]:List La).map (·.p)=[xs,ys] from rfl,show[xs,ys].flatten =xs++ys by simp] at h6;have s6:Ag Ab w w6:=⟨hc6.out⟩;have r6:HR w6 A6 (bs (xs++ys)):=⟨h6.out.rd⟩;have l6:=h6.out.len;have c6':=h6.out.le;have L6:=Lib.hid l6;have C6:=Lib.hid c6';clear h6 hc6 hg6 l6 c6';go_wp2_with fail;go_ret;exact⟨A6,n6,c6,rfl,Aa,inferInstance,L6.out,C6.out⟩
theorem VG (r:Ak) (w:World):
    Calls Tryz.prog 49 #[.agg (Aw r.l)] w fun e w'=>e= .returned (.agg (Aw (Na r).l))∧Ag Ab w w':=by
 have kb4: ∀w,(Instr.buildSlice 55 1 #[(0, .int .u8 4)]).run Tryz.prog w= .ok (.slice (some ⟨w.heap.size,0,none⟩) 1 1) (w.alloc (.cells (Aw [4]) 5)):=fun _=>by kernel_rfl
 have kbR: ∀z3 z1 w,(Instr.buildSlice 181 2 #[(0, .slice (some ⟨z3,0,none⟩) 1 1),(1, .slice (some ⟨z1,0,none⟩) 32 32)]).run Tryz.prog w= .ok (.slice (some ⟨w.heap.size,0,none⟩) 2 2) (w.alloc (.cells #[.slice (some ⟨z3,0,none⟩) 1 1, .slice (some ⟨z1,0,none⟩) 32 32] 55)):=fun _ _ _=>by kernel_rfl
 obtain⟨R,hR⟩: ∃R,R=Na r:=⟨_,rfl⟩;have HR0:=Lib.hid hR;rw[←hR];clear hR;go_enter Tryz.func49,Tryz.ntmps49;go_wp2_with (first|(refine BM 3 (kb4 _) ?_;intro z3 wb _ _ _)|(refine BM 5 (kbR _ _ _) ?_;intro zr wb _ _ _)|((with_reducible apply(Hc (t:=23) (s:=1)));exact rfl;exact Tryz.underlying23;(kernel_rfl))|(refine Bv 1 ?_;intro z1 wz1 _ _ _)|(refine BB 2 ?_;intro zo wzo _ _ _));refine(TE (xs:=[4]) (ys:=r.l) rfl r.len (by decide)).mono ?_;rintro e w2 ⟨A2,n2,c2,rfl,_,_,hl2,hc2⟩;have hn2:n2≤1000:=by rw[←hl2,List.length_append,r.len];decide
 have HL2:=Lib.hid hl2;clear hl2;go_wp2_with fail;refine(Io HL2.out hc2 (by omega)).mono ?_;rw[show Gw ([4]++r.l)=R from HR0.out.symm];rintro e w3 ⟨rfl,_⟩;go_wp2_with (first|(refine Bt ?_;intro ws _ _));exact Bo rfl rfl (n:=32) (Ak.size _) rfl ⟨rfl,Aa⟩
theorem TF (r:Ak) (w:World):
    Calls Tryz.prog 88 #[.agg (Aw r.l)] w fun e w'=>e= .returned (.agg (Aw (Na r).l))∧Ag Ab w w':=by
 have kb4: ∀w,(Instr.buildSlice 55 1 #[(0, .int .u8 4)]).run Tryz.prog w= .ok (.slice (some ⟨w.heap.size,0,none⟩) 1 1) (w.alloc (.cells (Aw [4]) 5)):=fun _=>by kernel_rfl
 obtain⟨R,hR⟩: ∃R,R=Na r:=⟨_,rfl⟩;have HR0:=Lib.hid hR;have HLL:Hid (([4]++r.l).length =1+32):=Lib.hid (by rw[List.length_append,r.len];rfl);rw[←hR];clear hR;go_enter Tryz.func88,Tryz.ntmps88;go_wp2_with (first|(refine BM 3 (kb4 _) ?_;intro z3 wb _ _ _)|((with_reducible apply(Hc (t:=23) (s:=1)));exact rfl;exact Tryz.underlying23;(kernel_rfl))|(refine Bv 1 ?_;intro z1 wz1 _ _ _)|(refine BB 2 ?_;intro zo wzo _ _ _)|(refine NO ?_;intro A' c' wa _ _ _ hcap));refine(KU HLL.out (by omega)).mono ?_;rw[show Gw ([4]++r.l)=R from HR0.out.symm];rintro e w3 ⟨rfl,_⟩;go_wp2_with (first|(refine Bt ?_;intro ws _ _));exact Bo rfl rfl (n:=32) (Ak.size _) rfl ⟨rfl,Aa⟩
end Go.Proofs.YtjjhceeookpieaaGreat
end
section
set_option maxRecDepth 100000
set_option maxHeartbeats 1600000
open Go Go.RowKit
namespace Go.Proofs.YtjjhceeookpieaaGreat
def FI (pub:Ak) (m:List UInt8) (leaf:Int) (l p:List Ak):Bool:=Ve leaf l.length p.length&&decide (Na (Ps (Ii m l) leaf.toNat p)=pub)
theorem Oh {A B C:Option Addr} {n c nl cl np cp:Nat} {m:List UInt8} {l p:List Ak} (pub:Ak) (leaf:Int) {w:World} [HR w A (bs m)] [HR w B (cellsOf l)] [HR w C (cellsOf p)] (hm:m.length=n) (hn:n≤140737488351232) (hl:l.length=nl) (hp:p.length=np):
    Calls Tryz.prog 203 #[.agg (Aw pub.l), .slice A n c, .agg #[.int .i64 leaf, .slice B nl cl, .slice C np cp]] w fun e w'=>e= .returned (.bool (FI pub m leaf l p))∧Ag Ab w w':=by
 cases hi:Ve leaf nl np with
 |false=>
  have hs:FI pub m leaf l p=false:=by rw[FI,hl,hp,hi];rfl
  rw[hs];have HI:=Lib.hid hi;clear hs hi;go_enter Tryz.func203,Tryz.ntmps203;go_wp2_with (first|(refine Bv 3 ?_;intro zp wzp _ _ _)|(refine Bv 5 ?_;intro zs wzs _ _ _)|(refine Cp ?_));refine(QB _).mono ?_;rw[HI.out];rintro e w1 ⟨rfl,_⟩;go_wp2_with fail;go_ret;exact⟨rfl,Aa⟩
 |true=>
  have hi':=hi;simp only[Ve,Bool.and_eq_true,decide_eq_true_eq] at hi';obtain⟨⟨⟨h0,h1⟩,rfl⟩,rfl⟩:=hi';obtain⟨i,rfl⟩: ∃i:Nat,leaf=(i:Int):=⟨leaf.toNat,by omega⟩;obtain⟨H,hH⟩: ∃H,H=Ii m l:=⟨_,rfl⟩;obtain⟨U,hU⟩: ∃U,U=Ps H i p:=⟨_,rfl⟩;obtain⟨N,hN⟩: ∃N,N=Na U:=⟨_,rfl⟩;have hs:FI pub m (i:Int) l p=decide (N=pub):=by rw[FI,hl,hp,hi,hN,hU,hH];rfl
  rw[hs];have HI:=Lib.hid hi;have HH:=Lib.hid hH;have HU:=Lib.hid hU;have HN:=Lib.hid hN;have heq:=Adj;clear hs hi hH hU hN;go_enter Tryz.func203,Tryz.ntmps203;go_wp2_with (first|(refine Bv 3 ?_;intro zp wzp _ _ _)|(refine Bv 5 ?_;intro zs wzs _ _ _)|(refine Cp ?_));refine(QB _).mono ?_;rw[HI.out];rintro e w1 ⟨rfl,_⟩;go_wp2_with (first|(refine GU ?_));refine(Nv hm hn hl).mono ?_;rw[if_pos rfl,decide_eq_true rfl,←HH.out];rintro e w2 ⟨rfl,_⟩;go_wp2_with (first|(refine BB 7 ?_;intro z7 wz7 _ _ _)|(refine Bt ?_;intro ws _ _));refine Ah (Ab) (by kernel_rfl) (fun wd _ _=> ?_);refine KW 0 ?_;refine YS 1 ?_;refine WN 2 ?_;refine YS 3 ?_;refine WN 4 ?_;refine KW 7 ?_;refine Yg 5 fun K_ hK_=> ?_
  go_simp;refine(Alb H i hp (by decide) (by omega)).mono ?_;rw[←HU.out];rintro e w5 ⟨rfl,_⟩;refine Yz hK_ ?_;clear hK_ K_;refine Yg 6 fun K_ hK_=> ?_
  go_simp;refine(TF U _).mono ?_;rw[←HN.out];rintro e w6 ⟨rfl,_⟩;refine Yz hK_ ?_;clear hK_ K_;refine YS 8 ?_;refine YS 9 ?_;refine Yd ?_;go_wp2_with fail;go_ret;exact⟨rfl,Aa⟩
end Go.Proofs.YtjjhceeookpieaaGreat
end
section
set_option maxRecDepth 100000
set_option maxHeartbeats 3200000
open Go Go.RowKit
namespace Go.Proofs.YtjjhceeookpieaaGreat
theorem Gu {zk:Nat} {seed:Ak} {used:Int} {w:World} [hk:AH w zk seed used]:
    Calls Tryz.prog 51 #[.pointer (some ⟨zk,0,none⟩)] w fun e w'=>e= .returned (.slice (some ⟨zk,34,none⟩) 16 16)∧Ag (only zk) w w'∧AH w' zk seed used∧HR w' (some ⟨zk,34,none⟩) (cellsOf (BF seed)):=by
 obtain⟨gr,tree,hl,hg,hb⟩:=hk.out;cases gr with
 |true=>
  obtain rfl:=hg rfl;have HG:=Lib.hid hg;have HL:=Lib.hid hl;clear hk hg hl;go_enter Tryz.func51,Tryz.ntmps51;go_wp2_with (first|((with_reducible apply(Og (t:=4)));exact rfl;infer_instance;infer_instance)|((with_reducible apply(Hc (t:=128) (s:=32)));exact rfl;exact Tryz.underlying128;(kernel_rfl)));go_ret;exact⟨rfl,FA,⟨true,BF seed,HL.out,fun _=>rfl,hb⟩,HR.keyTree hb⟩
 |false=>
  have HL:=Lib.hid hl;clear hk hg hl;go_enter Tryz.func51,Tryz.ntmps51;go_wp2_with (first|((with_reducible apply(Og (t:=4)));exact rfl;infer_instance;infer_instance));go_loopw [9] (fun kv wr=>∃(k:Nat) (tr:List Ak),k≤16∧kv= .int .i64 (k:Int)∧Hid (tr.length=16)∧Hid (∀j,j<k→AG tr j=IF seed (j:Int))∧Ag (only zk) w wr∧HB wr zk 130 (BQ seed used false tr).toArray) (fun kv _=>16 -(intOf kv).toNat)
  case atStart=>exact⟨0,tree,by decide,rfl,HL,Lib.hid (fun j hj=>by omega),FA,inferInstance⟩
  case round=>
   obtain⟨k,tr,hk,rfl,HT,HJ,_,hbk⟩:=hrel;have hka:AH wr zk seed used:=⟨false,tr,HT.out,(fun h=>by cases h),hbk⟩;by_cases hlt:k<16
   ·have hltI:(k:Int)<16:=by omega
    go_wp2_with fail;refine Ah ((only zk)) (by kernel_rfl) (fun wd _ _=> ?_);refine YS 0 ?_;refine YS 1 ?_;refine YS 2 ?_;refine YS 3 ?_;refine YS 4 ?_;refine YS 6 ?_;refine YS 8 ?_;refine YS 9 ?_;refine Yh 5 fun K_ hK_=> ?_
    ((with_reducible apply(Yp (t:=23)));exact rfl;infer_instance;infer_instance)
    refine Yn hK_ ?_;clear hK_ K_;refine Yg 7 fun K_ hK_=> ?_
    go_simp;refine(RQ seed (k:Int) _).mono ?_;rintro e w5 ⟨rfl,_⟩;refine Yz hK_ ?_;clear hK_ K_;refine Yh 10 fun K_ hK_=> ?_
    ((with_reducible apply(TC (t:=128) (s:=32)));exact rfl;exact rfl;exact Tryz.underlying128;(kernel_rfl);(first|(with_reducible assumption)|omega))
    refine Yn hK_ ?_;clear hK_ K_;refine Yh 11 fun K_ hK_=> ?_
    ((with_reducible apply(Yt (t:=23)));exact rfl;exact rfl;infer_instance;infer_instance;exact HT.out;(first|(with_reducible assumption)|omega);intro ws _ _)
    refine Ym hK_ ?_;clear hK_ K_;refine Yd ?_;go_wp2_with fail;refine⟨⟨k+1,tr.set k (IF seed (k:Int)),by omega,by go_num,Lib.hid (by rw[List.length_set];exact HT.out),Lib.hid (fun j hj=> ?_),FA,inferInstance⟩,by simp[intOf];omega⟩;by_cases hjk:j=k
    ·subst hjk;have h16:=HT.out;simp[AG,List.getD_eq_getElem?_getD,h16,hlt]
    have:=HJ.out j (by omega);rw[←this];simp[AG,List.getD_eq_getElem?_getD,Ne.symm hjk]
   have hltI: ¬(k:Int)<16:=by omega
   have htr:tr=BF seed:=by
    refine Aaa (by rw[HT.out,CV]) (fun i hi=> ?_);rw[HJ.out i (by have:=HT.out;omega)];have:i<16:=by have:=HT.out;omega
    simp[AG,BF,List.getD_eq_getElem?_getD,this]
   subst htr;go_wp2_with (first|((with_reducible apply(Ys (t:=4)));exact rfl;exact rfl;infer_instance;infer_instance;exact HT.out;intro ws _ _)|((with_reducible apply(Hc (t:=128) (s:=32)));exact rfl;exact Tryz.underlying128;(kernel_rfl)));go_ret;have hb9:HB ws zk 130 (BQ seed used true (BF seed)).toArray :=inferInstance;exact⟨rfl,FA,⟨true,BF seed,HT.out,fun _=>rfl,hb9⟩,HR.keyTree hb9⟩
def AQ (seed:Ak):Ak:=Na (DM (BF seed))
theorem Bx {zk:Nat} {seed:Ak} {used:Int} {w:World} [hk:AH w zk seed used]:
    Calls Tryz.prog 21 #[.pointer (some ⟨zk,0,none⟩)] w fun e w'=>e= .returned (.agg (Aw (AQ seed).l))∧Ag (only zk) w w'∧AH w' zk seed used:=by
 obtain⟨U,hU⟩: ∃U,U=DM (BF seed):=⟨_,rfl⟩;obtain⟨N,hN⟩: ∃N,N=AQ seed:=⟨_,rfl⟩;have hNU:N=Na U:=by rw[hN,hU];rfl
 have HU:=Lib.hid hU;have HN:=Lib.hid hNU;rw[←hN];clear hU hN hNU;go_enter Tryz.func21,Tryz.ntmps21;go_wp2_with (first|(refine BB 2 ?_;intro zo wzo _ _ _));refine(Gu).mono ?_;rintro e w1 ⟨rfl,_,_,_⟩;go_wp2_with fail;refine(Ahw (CV seed) (by decide)).mono ?_;rw[←HU.out];rintro e w2 ⟨rfl,_⟩;go_wp2_with fail;refine(VG U _).mono ?_;rw[←HN.out];rintro e w3 ⟨rfl,_⟩;go_wp2_with (first|(refine Bt ?_;intro ws _ _));exact Bo rfl rfl (n:=32) (Ak.size _) rfl ⟨rfl,FA,inferInstance⟩
theorem RB {zk:Nat} {seed:Ak} {used:Int} {A:Option Addr} {n c:Nat} {m:List UInt8} {w:World} [hk:AH w zk seed used] [hr:HR w A (bs m)] (hm:m.length=n) (hc:n≤c) (hn:n≤100000) (h0:0≤used) (h16:used<16):
    Calls Tryz.prog 28 #[.pointer (some ⟨zk,0,none⟩), .slice A n c] w fun e w'=>∃z A' c',e= .returned (.tuple #[.agg #[.int .i64 used, .slice (some ⟨z,0,none⟩) 36 36, .slice A' (EN (BF seed) used).length c'], .int .i64 0])∧Ag (only zk) w w'∧AH w' zk seed (used+1)∧
     Aj w (some ⟨z,0,none⟩)∧Aj w A'∧HO w' 23 32 (some ⟨z,0,none⟩) 36 36 (cellsOf (Kt seed used m))∧HO w' 23 32 A' (EN (BF seed) used).length c' (cellsOf (EN (BF seed) used))∧BW (An (some ⟨z,0,none⟩)) A'∧BW (An A') (some ⟨z,0,none⟩):=by
 have kbS: ∀(u:Int) (z:Nat) (B:Option Addr) (k d:Nat) w,(Instr.build 132 #[(0, .int .i64 u),(1, .slice (some ⟨z,0,none⟩) 36 36),(2, .slice B k d)]).run Tryz.prog w= .ok (.agg #[.int .i64 u, .slice (some ⟨z,0,none⟩) 36 36, .slice B k d]) w:=fun _ _ _ _ _ _=>by kernel_rfl
 obtain⟨S,hS⟩: ∃S,S=Kt seed used m:=⟨_,rfl⟩;obtain⟨Pa,hP⟩: ∃Pa,Pa=EN (BF seed) used:=⟨_,rfl⟩;have HS:=Lib.hid hS;have HP:=Lib.hid hP;rw[←hS,←hP];clear hS hP;go_enter Tryz.func28,Tryz.ntmps28;go_wp2_with (first|((with_reducible apply(Mg (t:=3)));exact rfl;infer_instance;infer_instance)|(refine BB 4 ?_;intro zo wzo _ _ _));refine Th (KI zk seed used) ((only zk)) (by kernel_rfl) inferInstance (fun wd _ _=> ?_);refine XE 0 ?_;refine XE 1 ?_;refine XE 2 ?_;refine' Jk (i:=3) (v:=_) rfl (by kernel_rfl) (by kernel_rfl) (by kernel_rfl) (fun _ _ _ h=>h) (DS (by rfl) (fun w' _=> ?_)) inferInstance ?_;rotate_left
 ·((apply(Gt (t:=3)));exact rfl;infer_instance;infer_instance)
 try simp only[Act.put,sA,sB,sC]
 refine XE 4 ?_;refine XE 5 ?_;refine XE 6 ?_;refine' Jk (i:=7) (v:=_) rfl (by kernel_rfl) (by kernel_rfl) (by kernel_rfl) (fun _ _ _ h=>h) (DS (by rfl) (fun w' _=> ?_)) inferInstance ?_;rotate_left
 ·((apply(Ls (t:=23)));exact rfl;infer_instance;infer_instance)
 try simp only[Act.put,sA,sB,sC]
 refine XE 8 ?_;refine XE 9 ?_;refine XE 10 ?_;refine' Jk (i:=11) (v:=_) rfl (by kernel_rfl) (by kernel_rfl) (by kernel_rfl) (fun _ _ _ h=>h) (DS (by rfl) (fun w' _=> ?_)) inferInstance ?_;rotate_left
 ·((apply(Gt (t:=3)));exact rfl;infer_instance;infer_instance)
 try simp only[Act.put,sA,sB,sC]
 refine XE 12 ?_;refine XE 14 ?_;refine XE 16 ?_;refine XE 17 ?_;refine XE 18 ?_;refine' Jk (i:=19) (v:=_) rfl (by kernel_rfl) (by kernel_rfl) (by kernel_rfl) (fun _ _ _ h=>h) (DS (by rfl) (fun w' _=> ?_)) inferInstance ?_;rotate_left
 ·((apply(Gt (t:=3)));exact rfl;infer_instance;infer_instance)
 try simp only[Act.put,sA,sB,sC]
 refine wpAnyH_ready (rs:=[13,22]) (by kernel_rfl) (by simp) (AllReadyH.cons rfl (fun K_ hK_=> ?br1_13) (AllReadyH.cons rfl (fun K_ hK_=> ?br1_22) AllReadyH.nil))
 case' br1_13=>
  go_simp;refine(Ox seed used hm hc hn).mono ?_;rw[←HS.out];rintro e w5 ⟨z,rfl,_,hz,_⟩;refine Yz hK_ ?_;clear hK_ K_;refine wpAnyH_ready (rs:=[15,22]) (by kernel_rfl) (by simp) (AllReadyH.cons rfl (fun K_ hK_=> ?br2_15) (AllReadyH.cons rfl (fun K_ hK_=> ?br2_22) AllReadyH.nil))
  case' br2_15=>
   go_simp;refine(Gu).mono ?_;rintro e w6 ⟨rfl,_,_,_⟩;refine Yz hK_ ?_;clear hK_ K_;refine wpAnyH_ready (rs:=[20,22]) (by kernel_rfl) (by simp) (AllReadyH.cons rfl (fun K_ hK_=> ?br3_20) (AllReadyH.cons rfl (fun K_ hK_=> ?br3_22) AllReadyH.nil))
   case' br3_20=>
    go_simp;refine(WY used (CV seed) (by decide)).mono ?_;rw[←HP.out];rintro e w7 ⟨A7,c7,rfl,_,hA7,_⟩;refine Yz hK_ ?_;clear hK_ K_;refine' Jk (i:=21) (v:=_) rfl (by kernel_rfl) (by kernel_rfl) (by kernel_rfl) (fun _ _ _ h=>h) (DS (by rfl) (fun w' _=> ?_)) inferInstance ?_;rotate_left
    ·((apply Jl);exact kbS _ _ _ _ _ _)
    try simp only[Act.put,sA,sB,sC]
    refine Yh 22 fun K_ hK_=> ?_
    (refine BB 6 ?_;intro z6 wz6 _ _ _)
    refine Yn hK_ ?_;clear hK_ K_;refine Yh 23 fun K_ hK_=> ?_
    (refine Bt ?_;intro ws _ _)
    refine Ym hK_ ?_;clear hK_ K_;refine Yd ?_
   case' br3_22=>
    refine Yq ?_
    (refine BB 6 ?_;intro z6 wz6 _ _ _)
    refine Yn hK_ ?_;clear hK_ K_;refine Yg 20 fun K_ hK_=> ?_
    go_simp;refine(WY used (CV seed) (by decide)).mono ?_;rw[←HP.out];rintro e w7 ⟨A7,c7,rfl,_,hA7,_⟩;refine Yz hK_ ?_;clear hK_ K_;refine' Jk (i:=21) (v:=_) rfl (by kernel_rfl) (by kernel_rfl) (by kernel_rfl) (fun _ _ _ h=>h) (DS (by rfl) (fun w' _=> ?_)) inferInstance ?_;rotate_left
    ·((apply Jl);exact kbS _ _ _ _ _ _)
    try simp only[Act.put,sA,sB,sC]
    refine Yh 23 fun K_ hK_=> ?_
    (refine Bt ?_;intro ws _ _)
    refine Ym hK_ ?_;clear hK_ K_;refine Yd ?_
  case' br2_22=>
   refine Yq ?_
   (refine BB 6 ?_;intro z6 wz6 _ _ _)
   refine Yn hK_ ?_;clear hK_ K_;refine Yg 15 fun K_ hK_=> ?_
   go_simp;refine(Gu).mono ?_;rintro e w6 ⟨rfl,_,_,_⟩;refine Yz hK_ ?_;clear hK_ K_;refine Yg 20 fun K_ hK_=> ?_
   go_simp;refine(WY used (CV seed) (by decide)).mono ?_;rw[←HP.out];rintro e w7 ⟨A7,c7,rfl,_,hA7,_⟩;refine Yz hK_ ?_;clear hK_ K_;refine' Jk (i:=21) (v:=_) rfl (by kernel_rfl) (by kernel_rfl) (by kernel_rfl) (fun _ _ _ h=>h) (DS (by rfl) (fun w' _=> ?_)) inferInstance ?_;rotate_left
   ·((apply Jl);exact kbS _ _ _ _ _ _)
   try simp only[Act.put,sA,sB,sC]
   refine Yh 23 fun K_ hK_=> ?_
   (refine Bt ?_;intro ws _ _)
   refine Ym hK_ ?_;clear hK_ K_;refine Yd ?_
 case' br1_22=>
  refine Yq ?_
  (refine BB 6 ?_;intro z6 wz6 _ _ _)
  refine Yn hK_ ?_;clear hK_ K_;refine Yg 13 fun K_ hK_=> ?_
  go_simp;refine(Ox seed used hm hc hn).mono ?_;rw[←HS.out];rintro e w5 ⟨z,rfl,_,hz,_⟩;refine Yz hK_ ?_;clear hK_ K_;refine Yg 15 fun K_ hK_=> ?_
  go_simp;refine(Gu).mono ?_;rintro e w6 ⟨rfl,_,_,_⟩;refine Yz hK_ ?_;clear hK_ K_;refine Yg 20 fun K_ hK_=> ?_
  go_simp;refine(WY used (CV seed) (by decide)).mono ?_;rw[←HP.out];rintro e w7 ⟨A7,c7,rfl,_,hA7,_⟩;refine Yz hK_ ?_;clear hK_ K_;refine' Jk (i:=21) (v:=_) rfl (by kernel_rfl) (by kernel_rfl) (by kernel_rfl) (fun _ _ _ h=>h) (DS (by rfl) (fun w' _=> ?_)) inferInstance ?_;rotate_left
  ·((apply Jl);exact kbS _ _ _ _ _ _)
  try simp only[Act.put,sA,sB,sC]
  refine Yh 23 fun K_ hK_=> ?_
  (refine Bt ?_;intro ws _ _)
  refine Ym hK_ ?_;clear hK_ K_;refine Yd ?_
 all_goals
  have hd1:BW (An (some ⟨z,0,none⟩)) A7:=@BW.rowOld _ 23 32 36 36 (some ⟨z,0,none⟩) A7 (cellsOf S) hA7 inferInstance;have hd2:BW (An A7) (some ⟨z,0,none⟩):=@BW.rowNew _ 23 32 36 36 A7 (some ⟨z,0,none⟩) (cellsOf S) hA7 inferInstance;have hz9:Aj w (some ⟨z,0,none⟩):=Aj.monoS hz;have hA9:Aj w A7:=Aj.monoS hA7;go_wp2_with (first|((with_reducible apply(Mg (t:=3)));exact rfl;infer_instance;infer_instance)|((with_reducible apply(Yr (t:=3)));exact rfl;exact rfl;infer_instance;infer_instance;intro ws _ _)|(refine Cp ?_)|(refine Bt ?_;intro ws _ _));refine AA rfl rfl rfl (n:=3) rfl rfl ?_;exact⟨z,A7,c7,rfl,FA,inferInstance,hz9,hA9,inferInstance,inferInstance,hd1,hd2⟩
theorem TG {zk:Nat} {seed:Ak} {used:Int} {A:Option Addr} {n c:Nat} {m:List UInt8} {w:World} [hk:AH w zk seed used] [hr:HR w A (bs m)] (hm:m.length=n) (hc:n≤c) (hn:n≤100000) (h0:0≤used) (h16:used<16):
    Calls Tryz.prog 28 #[.pointer (some ⟨zk,0,none⟩), .slice A n c] w fun e w'=>∃z A' c',e= .returned (.tuple #[.agg #[.int .i64 used, .slice (some ⟨z,0,none⟩) 36 36, .slice A' (EN (BF seed) used).length c'], .int .i64 0])∧Ag (only zk) w w'∧AH w' zk seed (used+1)∧
     Aj w (some ⟨z,0,none⟩)∧Aj w A'∧HO w' 23 32 (some ⟨z,0,none⟩) 36 36 (cellsOf (Kt seed used m))∧HO w' 23 32 A' (EN (BF seed) used).length c' (cellsOf (EN (BF seed) used)):=
 (RB hm hc hn h0 h16).mono fun _ _ ⟨z,A',c',h1,h2,h3,h4,h5,h6,h7,_⟩=>⟨z,A',c',h1,h2,h3,h4,h5,h6,h7⟩
end Go.Proofs.YtjjhceeookpieaaGreat
end
section
open Go Go.RowKit
namespace Go.Proofs.YtjjhceeookpieaaGreat
def Mi (l:List Ak):List UInt8:=l.flatMap (·.l)
def Ao0 (leaf:Int) (l p:List Ak):List UInt8:=Ae [leaf]++Mi l++Mi p
def Ahs (ok:Bool) (bytes:List UInt8) (w:World):Ending→World→Prop:=fun e w'=>Ag Ab w w'∧
 if ok then∃A n c,e= .returned (.tuple #[.slice A n c, .int .i64 0])∧n=bytes.length∧HO w' 5 1 A n c (bs bytes)∧Aj w A
 else e= .returned (.tuple #[.slice none 0 0, .int .i64 1])
instance Al9:Eb Tryz.prog 195 #[.slice none 0 0]:=⟨.agg #[.slice none 0 0],fun _=>by kernel_rfl,rfl⟩
end Go.Proofs.YtjjhceeookpieaaGreat
end
section
open Go Go.RowKit
namespace Go.Proofs.YtjjhceeookpieaaGreat
def RS.hash (s:RS):Ak:=if h:(s.raw 32).1.length =32 then⟨(s.raw 32).1,h⟩ else Aq
def RS.hAt (s:RS):Nat→RS
 |0=>s
 |k+1=>((s.hAt k).raw 32).2
def RS.hs (s:RS):Nat→List Ak
 |0=>[]
 |k+1=>s.hs k++[(s.hAt k).hash]
theorem RC (l:List Ak):cellsOf l=bs (Mi l):=by
 induction l with
 |nil=>rfl
 |cons h l ih=>
  show bs h.l++cellsOf l=bs (h.l++Mi l);rw[ih,EW]
theorem HO.whole {w:World} {e:TypeId} {z n:Nat} {l:List Ak} (h:HO w e 32 (some ⟨z,0,none⟩) n n (cellsOf l)):HB w z e (Aw (Mi l)):=⟨by
 rcases h.out.form with⟨hn,_⟩|⟨g,cur,e1,hb,_,_,hsz,hx⟩
 ·cases hn
 injection e1 with e1
 injection e1 with e1
 subst e1;have:cur=Aw (Mi l):=by
  apply Array.ext';rw[List.take_of_length_le (by rw[Array.length_toList,hsz];exact Nat.le_refl _)] at hx;rw[hx,RC];simp[Aw]
 rw[←this];exact hb⟩
section
variable {P:Program} {ops:Array Oper} {a:Act} {w:World} {dst:Option Tmp} {ty:TypeId} {pos:String} {after:Array Edge} {gd:Option (Nat×Bool)}
end
def gz (g z:Nat):Nat→Prop:=fun x=>x=g∨x=z
instance (w:World) (g z:Nat):KE w (only g) (gz g z):=⟨fun _ _ h=> .inl h⟩
instance (w:World) (g z:Nat):KE w (only z) (gz g z):=⟨fun _ _ h=> .inr h⟩
def Ao1 (s:RS) (n k:Nat):List Ak:=s.hs k++List.replicate (n -k) Aq
end Go.Proofs.YtjjhceeookpieaaGreat
end
section
open Go Go.RowKit
namespace Go.Proofs.YtjjhceeookpieaaGreat
def dS1 (b:List UInt8):RS:=(⟨b,false⟩:RS).num.2
def Af9 (b:List UInt8):Nat:=(⟨b,false⟩:RS).num.1
def dL (b:List UInt8):List Ak:=(dS1 b).hs 36
def dP (b:List UInt8):List Ak:=((dS1 b).hAt 36).hs 4
def dS (b:List UInt8):RS:=((dS1 b).hAt 36).hAt 4
def Ag6 (b:List UInt8):Bool:=!(dS b).e &&decide ((dS b).b =[])
def dOk (b:List UInt8):Bool:=Ag6 b&&Ve (Af9 b) 36 4
def Aht (b:List UInt8) (w:World):Ending→World→Prop:=fun e w'=>Ag Ab w w'∧
 if dOk b then∃A B c d,e= .returned (.tuple #[.agg #[.int .i64 (Af9 b), .slice A 36 c, .slice B 4 d], .int .i64 0])∧HO w' 23 32 A 36 c (cellsOf (dL b))∧HO w' 23 32 B 4 d (cellsOf (dP b))∧Aj w A∧Aj w B
 else e= .returned (.tuple #[.agg #[.int .i64 0, .slice none 0 0, .slice none 0 0], .int .i64 2])
end Go.Proofs.YtjjhceeookpieaaGreat
end
section
open Go Go.RowKit
namespace Go.Proofs.YtjjhceeookpieaaGreat
end Go.Proofs.YtjjhceeookpieaaGreat
end
section
open Go Go.RowKit
namespace Go.Proofs.YtjjhceeookpieaaGreat
theorem Ok (o:Ak): ∀(p:List Ak) (h:Ak) (i:Nat),Ps h i (p++[o])=if(i/2^p.length)%2=0 then Hd (Ps h i p) o else Hd o (Ps h i p)
 |[],h,i=>by simp[Ps]
 |x::p,h,i=>by
  rw[List.cons_append,Ps,Ok o p,Ps,List.length_cons,Nat.pow_succ,Nat.mul_comm,Nat.div_div_eq_div_mul]
theorem WZ: ∀(p:List Ak) (h:Ak) (i k:Nat),Ps h (i+2^p.length*k) p=Ps h i p
 |[],h,i,k=>by simp[Ps]
 |x::p,h,i,k=>by
  have e1:(i+2^(x::p).length *k)%2=i%2:=by rw[List.length_cons,Nat.pow_succ,Nat.mul_comm (2^p.length) 2,Nat.mul_assoc];omega
  have e2:(i+2^(x::p).length *k)/2=i/2+2^p.length*k:=by rw[List.length_cons,Nat.pow_succ,Nat.mul_comm (2^p.length) 2,Nat.mul_assoc];omega
  rw[Ps,e1,e2,WZ p,Ps]
theorem Aal (h:Nat):AS (2^(h+1))=2^h:=by
 have h1:1≤2^h:=Nat.one_le_two_pow;exact(Aak (2^(h+1)) h (by rw[Nat.pow_succ];omega) (by rw[Nat.pow_succ];omega)).symm
theorem Yw (l:List Ak) (k i:Nat) (h:i<k):AG (l.take k) i=AG l i:=by simp[AG,List.getD_eq_getElem?_getD,h]
theorem Yx (l:List Ak) (k i:Nat):AG (l.drop k) i=AG l (k+i):=by simp[AG,List.getD_eq_getElem?_getD]
theorem RE: ∀(h:Nat) (l:List Ak) (i:Nat),l.length=2^h→i<l.length→(DN l i).length =h∧Ps (AG l i) i (DN l i)=DM l
 |0,l,i,hl,hi=>by
  rw[Nc l i (by rw[hl];decide)];obtain⟨x,rfl⟩:=List.length_eq_one_iff.1 (hl.trans (by decide));have:i=0:=by simpa using hi
  subst this;exact⟨rfl,rfl⟩
 |h+1,l,i,hl,hi=>by
  have h1:1≤2^h:=Nat.one_le_two_pow;have hp:2^(h+1)=2^h+2^h:=by rw[Nat.pow_succ];omega
  have h2:2≤l.length:=by omega
  have hh:AS l.length=2^h:=by rw[hl,Aal]
  have hr:=QC l h2;rw[hh] at hr;by_cases hlo:i<2^h
  ·obtain⟨i1,i2⟩:=RE h (l.take (2^h)) i (by rw[List.length_take];omega) (by rw[List.length_take];omega);rw[Yw _ _ _ hlo] at i2;rw[TK l i h2 (by rw[hh];exact hlo),hh,Ok,i1,i2,Nat.div_eq_of_lt hlo,if_pos (by decide),hr];exact⟨by rw[List.length_append,i1];rfl,rfl⟩
  obtain⟨i1,i2⟩:=RE h (l.drop (2^h)) (i -2^h) (by rw[List.length_drop];omega) (by rw[List.length_drop];omega);rw[Yx,show 2^h+(i -2^h)=i by omega] at i2;have hm:=WZ (DN (l.drop (2^h)) (i -2^h)) (AG l i) (i -2^h) 1;rw[i1,Nat.mul_one,show i -2^h+2^h=i by omega] at hm;have hd:i/2^h=1:=(Nat.div_eq_iff (by omega)).2 (by omega);rw[TL l i h2 (by rw[hh];exact hlo),hh,Ok,i1,hm,i2,hd,if_neg (by decide),hr];exact⟨by rw[List.length_append,i1];rfl,rfl⟩
end Go.Proofs.YtjjhceeookpieaaGreat
end
section
open Go Go.RowKit
namespace Go.Proofs.YtjjhceeookpieaaGreat
section
variable {leaf:Int} {l p:List Ak} {more:List UInt8}
theorem TH (seed:Ak) (used:Int) (m:List UInt8) (h0:0≤used) (h16:used<16):FI (AQ seed) m used (Kt seed used m) (EN (BF seed) used)=true:=by
 obtain⟨k,rfl⟩:=Int.eq_ofNat_of_zero_le h0;have hk:k<16:=by omega
 have hpa:EN (BF seed) (k:Int)=DN (BF seed) k:=by
  unfold EN;rw[if_neg (by rw[CV];omega)];rfl
 obtain⟨h1,h2⟩:=RE 4 (BF seed) k (CV seed) (by rw[CV];exact hk);have h3:AG (BF seed) k=IF seed (k:Int):=by simp[AG,BF,List.getD_eq_getElem?_getD,hk]
 unfold FI;rw[hpa,RP,←h3,show((k:Int)).toNat =k from rfl,h2,YG,h1];simp[Ve,AQ];omega
end
end Go.Proofs.YtjjhceeookpieaaGreat
end
