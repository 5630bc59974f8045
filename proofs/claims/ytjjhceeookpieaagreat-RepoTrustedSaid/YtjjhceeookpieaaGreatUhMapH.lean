/- MapH -/
import Derived.Test.YtjjhceeookpieaaGreatUhEq
import Derived.Maps.OwnSet
import Derived.WideKeyArr
open Go Go.RowKit Go.Maps Go.MapKept Go.ChangeMaps Go.WideShapes Go.WideMaps
namespace Go.Proofs.YtjjhceeookpieaaGreat
def Ahu:Value→Option (DataW Value×List MemPlace):=fun v=>some (.held v,[])
theorem PF {P:Program} {kt:TypeId} {H:Type} {R:Value→Option (DataW H×List MemPlace)} {w:World} {b n:Nat} {D:DataW H} (h:w.ownsMap P kt R b n D):w.ownsMap P kt R b (Maps.size D) D:=by
 obtain⟨es,clock,hb,F,hs,rfl⟩:=h;exact⟨es,clock,hb,F,by simp[Maps.size,length_sorted],rfl⟩
theorem RD {H:Type} {P:Program} {k:TypeId} {R:Value→Option (DataW H×List MemPlace)} {w w':World} {S:Nat→Prop} {b n:Nat} {D:DataW H} (h:w.ownsMap P k R b n D) (hc:Au S w w') (hS: ¬S b):w'.ownsMap P k R b n D:=by
 have hlt:=h.lt;obtain⟨es,clock,hb,r⟩:=h;exact⟨es,clock,(hc.block b hlt hS).trans hb,r⟩
theorem TI {w w':World} {b:Nat} (h:w.mapTurned w' b):Au (only b) w w':=by
 obtain⟨es,clock,es',clock',hb,rfl⟩:=h;refine⟨rfl,rfl,rfl,by simp[setBlock],fun x hx hn=>heap_setBlock_other hb _ (fun e=>hn e)⟩
theorem TJ {α β:Type} {f:α→Option β} {g:α→β}: ∀(l:List α),(∀x∈l,f x=some (g x))→l.mapM f=some (l.map g)
 |[],_=>rfl
 |x::l,h=>by
  rw[List.mapM_cons,h x (by simp),TJ l (fun y hy=>h y (by simp[hy]))];rfl
class Fj (P:Program) (kt:TypeId) (e:outParam TypeId):Prop where
 arr:ArrKey P kt e 32
 elem:P.underlying e=some (.int .u8)
 size: ∃m,P.types.size=m+1
section
variable {P:Program} {kt e:TypeId}
theorem Fj.at (K:Fj P kt e) (h:Ak): ∃s,keyOf P kt (.agg (Aw h.l))=some (.string s):=by
 obtain⟨m0,hm0⟩:=K.size;have hkt:=K.arr.keyType K.size;have hsz:(Aw h.l).size =32:=Ak.size h;unfold keyOf;simp only[K.arr.hu];rw[if_pos (by simp[hkt,Value.formed,K.arr.hu,K.arr.size,hsz]),hm0];unfold Program.keyLits;simp only[K.arr.hu,Value.cells];rw[if_pos (by rw[K.arr.size];simpa using hsz)];rw[TJ (g:=fun i=>[Lit.int .u8 ((Eo h.l i).toNat :Int)])]
 ·exact⟨_,rfl⟩
 intro i hi;have hi':i<32:=by simpa using hi
 have hd:((Aw h.l).toList.drop (i*P.cellsOf e)).take (P.cellsOf e)=[.int .u8 ((Eo h.l i).toNat :Int)]:=by
  have hl:i<h.l.length:=by rw[h.len];exact hi'
  rw[K.arr.one,Nat.mul_one,List.take_one];have h1:(Aw h.l).toList[i]? =some (.int .u8 ((Eo h.l i).toNat :Int)):=by
   simp[Aw,bs,GV,Eo,List.getD_eq_getElem?_getD,List.getElem?_eq_getElem hl]
  rw[List.head?_drop,h1];rfl
 rw[hd];unfold Program.keyLits;simp only[K.elem];have h8:=(Eo h.l i).toNat_lt;simp[Lit.wf,IntKind.min,IntKind.max,IntKind.signed,IntKind.bits];omega
def Jr (P:Program) (kt:TypeId) (h:Ak):Lit:=(keyOf P kt (.agg (Aw h.l))).getD (.bool false)
theorem Fj.key (K:Fj P kt e) (h:Ak):keyOf P kt (.agg (Aw h.l))=some (Jr P kt h):=by
 obtain⟨s,hs⟩:=K.at h;rw[Jr,hs];rfl
theorem Fj.inj (K:Fj P kt e) {a b:Ak} (h:Jr P kt a=Jr P kt b):a=b:=by
 have h1:=K.arr.law.inj (K.key a) (by rw[h];exact K.key b);have h2:Aw a.l=Aw b.l:=by injection h1
 have h3:bs a.l=bs b.l:=by
  have:=congrArg Array.toList h2;simpa[Aw,bs] using this
 exact Ak.ext' (ZK h3)
theorem Fj.isKey (K:Fj P kt e) (h:Ak):WideAt.IsKeyLit (Jr P kt h):=by
 obtain⟨s,hs⟩:=K.at h;rw[Jr,hs]
 trivial
def Nt (P:Program) (kt:TypeId) (w:World) (g m:Nat) (f:Ak→Bool):Prop:=
 ∃D:DataW Value,w.ownsMap P kt Ahu g m D∧Maps.size D=m∧∀h:Ak,Maps.has D (Jr P kt h)=f h∧D.atKey (Jr P kt h) (.held (.agg #[]))= .held (.agg #[])
variable {et mt:TypeId} {w w':World} {g m:Nat} {S:Nat→Prop} {f:Ak→Bool}
theorem Nt.lt (h:Nt P kt w g m f):g<w.heap.size:=by
 obtain⟨D,h1,_⟩:=h;exact h1.lt
theorem Nt.chg (h:Nt P kt w g m f) (hc:Au S w w') (hS: ¬S g):Nt P kt w' g m f:=by
 obtain⟨D,h1,h2⟩:=h;exact⟨D,RD h1 hc hS,h2⟩
theorem Nt.made (w:World):Nt P kt (w.alloc (.map #[] 0)) w.heap.size 0 (fun _=>false):=
 ⟨_,World.ownsMap_made w P kt _,rfl,fun _=>⟨rfl,rfl⟩⟩
theorem Nt.put (h:Nt P kt w g m f) (K:Fj P kt e) (ht:P.underlying mt=some (.map kt et)) (hn:m<maxLen) (x:Ak):
    ∃w',(Instr.mapUpdate mt (.map (some g)) (.agg (Aw x.l)) (.agg #[])).run P w= .ok () w'∧Nt P kt w' g (if f x then m else m+1) (fun y=>decide (y=x)||f y)∧Au (only g) w w':=by
 obtain⟨D,h1,h3,h2⟩:=h;obtain⟨w',hrun,ho,htn⟩:=h1.store (Keyed.of_law K.arr.law) ht hn (K.key x) (val:= .agg #[]) (d:= .held (.agg #[])) (ps:=[]) rfl;have hsz:Maps.size (D.put (Jr P kt x) (.held (.agg #[])))=if f x then m else m+1:=by
  rw[Maps.size_put (h1.tidy (Keyed.of_law K.arr.law)),(h2 x).1,h3]
 refine⟨w',hrun,⟨_,hsz▸PF ho,hsz,fun y=> ?_⟩,TI htn⟩;by_cases hy:y=x
 ·subst hy;exact⟨by rw[Maps.has_put_same h1.isMap (K.isKey y)];simp,Maps.atKey_put_same h1.isMap (K.isKey y) _ _⟩
 have hne:Jr P kt y≠Jr P kt x:=fun e=>hy (K.inj e)
 exact⟨by rw[Maps.has_put_other hne,(h2 y).1];simp[hy],by rw[Maps.atKey_put_other hne];exact(h2 y).2⟩
end
class HMH (P:Program) (kt:outParam TypeId) (w:World) (g:Nat) (m:outParam Nat) (f:outParam (Ak→Bool)):Prop where
 out:Nt P kt w g m f
class Ana (P:Program) (mt:TypeId) (kt:outParam TypeId):Prop where
 key: ∃e,Fj P kt e
 under: ∃et,P.underlying mt=some (.map kt et)∧∀w,(zeroValue et).run P w= .ok (.agg #[]) w
section
variable {P:Program} {kt mt:TypeId}
instance HMH.step (S:Nat→Prop) (w w':World) (g m:Nat) (f:Ak→Bool) [s:Ag S w w'] [h:HMH P kt w g m f] [o:As S g]:HMH P kt w' g m f:=⟨h.out.chg s.chg o.out⟩
variable {ops:Array Oper} {rest:List Oper} {a:Act} {w:World} {Q:Exit→Act→World→Prop} {dst:Option Tmp} {ty:TypeId} {pos:String} {after:Array Edge}
end
end Go.Proofs.YtjjhceeookpieaaGreat
