/- RoO -/
import Derived.Test.YtjjhceeookpieaaGreatUhQmA
import Derived.Test.YtjjhceeookpieaaGreatUhOpens
open Go Go.RowKit Go.WideShapes Go.ChangeShapes Go.Deep
namespace Go.Proofs.YtjjhceeookpieaaGreat
theorem LD {H:Type} {enc:TypeId×Value→H} {P:Program} {w:World} {spare:Nat→Bool} {held:Bool} {fuel:Nat} {t:TypeId} {cs:List Value} {x:DataW H×List MemPlace} {fs:Array Field} (ht:P.underlying t=some (.struct fs)) (hf:DataW.trod enc P w 0 spare held fuel t cs=some x):
    ∃m,cs.length=P.cellsOf t∧∀(i:Nat) (f:Field),Eg fs.toList i=some f→∃y,DataW.trod enc P w 0 spare held m f.type ((cs.drop f.offset).take (P.cellsOf f.type))=some y∧∀u∈y.1.weights P f.type,u∈x.1.weights P t:=by
 obtain⟨xs,m,_,hx,hl,hxl,hel⟩:=DataW.trod_struct ht hf;refine⟨m,hl,fun i f hi=> ?_⟩;rw[←Bp] at hi;have hi':fs[i]? =some f:=by simpa using hi
 have hlt:i<xs.length:=by
  rw[hxl];exact(Array.getElem?_eq_some_iff.1 hi').1
 refine⟨xs[i],by rw[hel i f hi',List.getElem?_eq_getElem hlt],fun u hu=> ?_⟩;rw[hx];simp only[DataW.weights,ht];exact DataW.weights_mem_each (j:=i) (t:=f.type) (by rw[List.getElem?_map,hi];rfl) (by rw[List.getElem?_map,List.getElem?_eq_getElem hlt];rfl) u hu
structure Am3 (w:World) (k:KR):Prop where
 rd:Rd w k.A (cellsOf k.l)
 len:k.l.length=k.n
 cap:k.n≤k.c
end Go.Proofs.YtjjhceeookpieaaGreat
