/- WyQ -/
import Derived.Test.YtjjhceeookpieaaGreatUhWuB
import Derived.Stop.BytesEq
import Derived.Laws.StructEq
open Go Go.RowKit
namespace Go.Proofs.YtjjhceeookpieaaGreat
theorem Dw {P:Program} {t:TypeId} [h:AL P t] {xs:Array Value} {off:Nat} {v:Value} (hx:Eg xs.toList off=some v) (w:World):(part t xs off).run P w= .ok v w:=by
 rw[←Bp] at hx;have hx':xs[off]? =some v:=by simpa using hx
 simp[part,h.agg w,hx']
theorem Rj {P:Program} {t:TypeId} {n:Nat} [h:Cl P t n] {xs:Array Value} {off:Nat} {cs:Array Value} (hx:(xs.toList.drop off).take n=cs.toList) (w:World):(part t xs off).run P w= .ok (.agg cs) w:=by
 obtain⟨d,hd1,hd2⟩:=h.row;have hsz:=h.size;cases hq:P.info? t with
 |none=>rw[hq] at hsz;simp at hsz
 |some i=>
  have hs:i.size=n:=by rw[hq] at hsz;simpa using hsz
  have hagg:(isAgg t).run P w= .ok true w:=by
   unfold isAgg;rw[Sem.run_bind,run_underlying hd1 w];cases d<;>simp_all
  have e:xs.extract off (off+n)=cs:=by
   apply Array.ext';rw[←hx];simp[List.extract]
  simp[part,hagg,sizeOf,typeInfo,hq,hs,e]
theorem GF {P:Program} {d:Nat} {xs ys:Array Value} {f:Field} {fs:List Field} {w:World} (hn:f.name≠ "_") {a b:Value} (ha:(part f.type xs f.offset).run P w= .ok a w) (hb:(part f.type ys f.offset).run P w= .ok b w) {r:Bool} (hr:(Op.equalIn d f.type a b).run P w= .ok r w) {s:Bool} (hs:(Op.eqFields d xs ys fs).run P w= .ok s w):
    (Op.eqFields d xs ys (f::fs)).run P w= .ok (r&&s) w:=by
 rw[Op.eqFields,if_pos hn];simp only[Sem.run_bind,ha,hb,hr,Result.andThen_ok];cases r
 ·simp
 simp[hs]
instance Aku:DecidableEq Ak:=fun a b=>decidable_of_iff (a.l=b.l) ⟨Ak.ext',congrArg _⟩
theorem ZC (a b:Ak):(a.l==b.l)=decide (a=b):=by
 rw[Bool.eq_iff_iff];simp only[beq_iff_eq,decide_eq_true_eq];exact⟨Ak.ext',fun h=>by rw[h]⟩
structure Kj where
 v:Int
 e:Int
 s:Int
 h:Ak
def Kj.arr (t:Kj):Array Value:=(BI t.v t.e t.s t.h).toArray
def tmB (a b:Kj):Bool:=(a.v==b.v)&&((a.e==b.e)&&((a.s==b.s)&&decide (a.h=b.h)))
structure Ah3 where
 u:ByteArray
 n:ByteArray
 h:Ak
 c:Int
 k:Int
def Ah3.arr (t:Ah3):Array Value:=(Ah2 t.u t.n t.h t.c t.k).toArray
def rpB (a b:Ah3):Bool:=(a.u.toList==b.u.toList)&&((a.n.toList==b.n.toList)&&(decide (a.h=b.h)&&((a.c==b.c)&&(a.k==b.k))))
end Go.Proofs.YtjjhceeookpieaaGreat
