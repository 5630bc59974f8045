/- Conv -/
import Derived.Test.YtjjhceeookpieaaGreatUhBase
import Derived.Laws.BytesArg
import Derived.Laws.BytesString
open Go Go.RowKit
namespace Go.Proofs.YtjjhceeookpieaaGreat
def Al (xs:List UInt8):ByteArray:=⟨xs.toArray⟩
theorem Qs (a:ByteArray): ∀(m i:Nat) (r:List UInt8),m=a.size -i→ByteArray.toList.loop a i r=r.reverse++a.data.toList.drop i
 |0,i,r,h=>by
  have hsz:a.data.toList.length=a.size:=Array.length_toList;rw[ByteArray.toList.loop,if_neg (by omega),List.drop_of_length_le (by omega),List.append_nil]
 |m+1,i,r,h=>by
  rw[ByteArray.toList.loop,if_pos (by omega),Qs a m (i+1) _ (by omega)];have hsz:a.data.toList.length=a.size:=Array.length_toList;have hi:i<a.data.toList.length:=by omega
  rw[List.drop_eq_getElem_cons hi];have e:a.get! i=a.data.toList[i]:=by
   simp only[ByteArray.get!];rw[getElem!_pos a.data i (by simpa using hi)];simp
  rw[e];simp
theorem AI (xs:List UInt8):(Al xs).toList =xs:=by
 show ByteArray.toList.loop (Al xs) 0 []=xs;rw[Qs (Al xs) _ 0 [] rfl];simp[Al]
theorem Add (xs ys:List UInt8):((Al xs).toList ==(Al ys).toList)=decide (xs=ys):=by
 rw[AI,AI,Bool.eq_iff_iff,beq_iff_eq,decide_eq_true_eq]
section
variable {P:Program} {ops:Array Oper} {rest:List Oper} {a:Act} {w:World} {Q:Exit→Act→World→Prop} {dst:Option Tmp} {ty:TypeId} {pos:String} {after:Array Edge}
theorem Vr (xs:List UInt8) (b:ByteArray):(xs.map fun x=>(x.toNat:Int)).foldl (fun a n=>a.push (UInt8.ofNat n.toNat)) b=⟨b.data++xs.toArray⟩:=by
 induction xs generalizing b with
 |nil=>simp
 |cons x xs ih=>
  rw[List.map_cons,List.foldl_cons,ih]
  congr 1
  apply Array.ext';simp[ByteArray.push]
theorem XS {src td e:TypeId} {A:Option Addr} {n c:Nat} {xs:List UInt8} (hr:Rd w A (bs xs)) (hn:xs.length=n)
    (hs:P.underlying src=some (.slice e)) (he:P.underlying e=some (.int .u8)) (hd:P.underlying td=some .string):(convert src td (.slice A n c)).run P w= .ok (.string (Al xs)) w:=by
 cases A with
 |none=>
  have hx:xs=[]:=by
   cases xs with
   |nil=>rfl
   |cons x l=>obtain⟨ad,h,_⟩:=hr 0 _ rfl;cases h
  subst hx;subst hn;exact run_convert_bytes_nil w src e hs he _ c td hd
 |some ad=>
  have hl:(loadCells ad n).run P w= .ok ((xs.map fun x=>(x.toNat:Int)).map (Value.int .u8)).toArray w:=by
   have h:=run_loadCells_list (P:=P) w ad (bs xs) (fun j v hv=>by
    obtain⟨ad',e1,e2⟩:=hr j v hv;injection e1 with e1
    subst e1;exact e2)
   rw[Am,hn] at h;rw[h,List.map_map];rfl
  rw[run_convert_bytes_string w src td e ad n c hs he hd,run_bytesToString w ad n c _ hl,Vr];simp[Al]
theorem Tj {src td e:TypeId} {x:Operand} {A:Option Addr} {n c:Nat} {xs:List UInt8} (hx:a.eval x= .slice A n c) (hr:HR w A (bs xs)) (hn:xs.length=n)
    (hs:P.underlying src=some (.slice e)) (he:P.underlying e=some (.int .u8)) (hd:P.underlying td=some .string)
    (h:wpList P ops Q rest (a.put dst (.string (Al xs))) w):wpList P ops Q (⟨dst, .convert src td x,ty,pos,after,none⟩::rest) a w:=
 Av rfl (by
  show((convert src td (a.eval x))>>=fun v=>pure (Next.value v)).run P w=_;rw[hx,Sem.run_bind,XS hr.out hn hs he hd];rfl) h
end
end Go.Proofs.YtjjhceeookpieaaGreat
