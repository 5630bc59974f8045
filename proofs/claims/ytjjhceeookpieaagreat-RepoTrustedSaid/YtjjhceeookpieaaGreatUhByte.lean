/- Byte -/
import Derived.Test.YtjjhceeookpieaaGreatUhBase
open Go Go.RowKit
namespace Go.Proofs.YtjjhceeookpieaaGreat
section
variable {P:Program} {ops:Array Oper} {rest:List Oper} {a:Act} {w:World} {Q:Exit→Act→World→Prop} {dst:Option Tmp} {ty:TypeId} {pos:String} {after:Array Edge} {gd:Option (Nat×Bool)}
theorem XQ {t:TypeId} {x ix:Operand} {A:Option Addr} {n c k:Nat} (hx:a.eval x= .slice A n c) (hi:a.eval ix= .int .i64 (k:Int)) {e:TypeId} {bytes:Nat} {z:Value} (E:Bm P t e 1 bytes z) {xs:List UInt8} (hr:HR w A (bs xs)) (hl:xs.length=n) (h1:k<n):
    (execOp a.eval ⟨dst, .indexAddr t x ix,ty,pos,after,gd⟩).run P w= .ok (.value (AN A k)) w:=by
 obtain⟨ad,hA,_⟩:=hr.out.lt (by rw[Am,hl];omega);obtain⟨ti,hti,hz,hsz,hb⟩:=info_parts E.out.info;show((Instr.indexAt t (a.eval x) (a.eval ix))>>=fun v=>pure (Next.value v)).run P w=_;rw[hx,hi,hA];simp[Instr.indexAt,asIntOf,run_underlying E.out.under,sizeOf,typeInfo,hti,hsz,h1,AN,DD]
theorem ZT {t:TypeId} {x:Operand} {A:Option Addr} {k:Nat} (hx:a.eval x=AN A k) {xs:List UInt8} (hr:HR w A (bs xs)) (ht:AL P t) (hk:k<xs.length):
    (execOp a.eval ⟨dst, .load t x,ty,pos,after,gd⟩).run P w= .ok (.value (.int .u8 ((Eo xs k).toNat :Int))) w:=by
 obtain⟨ad,b,hA,hb,hc⟩:=hr.out.byte hk;have e:Eo xs k=b:=by simp[Eo,List.getD_eq_getElem?_getD,hb]
 show((Instr.loadAt t (a.eval x))>>=fun v=>pure (Next.value v)).run P w=_;rw[hx,hA,e];simp[AN,DD,Instr.loadAt,Instr.sureAddr,loadVar,ht.agg w,hc]
theorem NT {t:TypeId} {x ix:Operand} {A:Option Addr} {n c k:Nat} (hx:a.eval x= .slice A n c) (hi:a.eval ix= .int .i64 (k:Int)) {e:TypeId} {bytes:Nat} {z:Value} (E:Bm P t e 1 bytes z) {xs:List UInt8} (hr:HR w A (bs xs)) (hl:xs.length=n) (h1:k<n)
    (h:wpList P ops Q rest (a.put dst (AN A k)) w):wpList P ops Q (⟨dst, .indexAddr t x ix,ty,pos,after,none⟩::rest) a w:=Av rfl (XQ hx hi E hr hl h1) h
theorem XR {t:TypeId} {x:Operand} {A:Option Addr} {k:Nat} (hx:a.eval x=AN A k) {xs:List UInt8} (hr:HR w A (bs xs)) (ht:AL P t) (hk:k<xs.length)
    (h:wpList P ops Q rest (a.put dst (.int .u8 ((Eo xs k).toNat :Int))) w):wpList P ops Q (⟨dst, .load t x,ty,pos,after,none⟩::rest) a w:=Av rfl (ZT hx hr ht hk) h
end
theorem Ti {a b:Int} (h: ¬a=b):(a==b)=false:=by simpa using h
theorem Afv {a b:Int} (h:a=b):(a==b)=true:=by simpa using h
end Go.Proofs.YtjjhceeookpieaaGreat
