/- Opens -/
import Derived.Test.YtjjhceeookpieaaGreatUhBase
import Derived.ProofKit
import Derived.OpenShut
import Derived.ChangeSame
import Derived.Carry
import Derived.Deep.DeepHandedRow
import Derived.Deep.Slices
import Derived.Lib.LaidTab
import Derived.Deep.Matrix
import Derived.Deep.Grids
section
open Go Go.RowKit Go.WideShapes Go.ChangeShapes
namespace Go.Proofs.YtjjhceeookpieaaGreat
section
variable {H:Type} {enc:TypeId×Value→H} {P:Program}
theorem PH {f:Func} {s:ChangeSpec} {apart fresh handsOn again:Bool} {W W':World} {args:Array Value} {v:Value} {ds gs:List (DataW H)} {before pa pv:List MemPlace}
    (hW:DataW.Whole enc P f.params.toList s.vars apart W args.toList ds gs before)
    (hres: ∀(b:Nat) (sp:Nat→Bool) (hd:Bool),DataW.TrodAll enc P W' b sp hd f.resultTypes.toList (v.resultList f.resultTypes.size) (s.fn H (ds++gs)).results [])
    (hargs: ∀sp:Nat→Bool,(∀p∈before,sp p.block=true)→DataW.TrodAll enc P W' 0 sp true f.params.toList args.toList (s.fn H (ds++gs)).args pa)
    (hvars: ∀sp:Nat→Bool,(∀p∈before,sp p.block=true)→DataW.TrodVars enc P W' sp s.vars (s.fn H (ds++gs)).vars pv)
    (hps:before=pa++pv) (hb:Below W.heap.size W W')
    (hok: ∀(j:Nat) (t:TypeId) (r:Value),f.resultTypes[j]? =some t→(v.resultList f.resultTypes.size)[j]? =some r→Value.okWide P W' .any 0 t r):
    s.post enc P f apart fresh handsOn again W args v W':=by
 have hlt: ∀p∈before,p.block<W.heap.size:=fun p hp=>hW.lt p hp
 have hold: ∀p∈before,(fun b=>decide (b<W.heap.size)) p.block=true:=fun p hp=>by simpa using hlt p hp
 refine⟨ds,gs,before,[],pa,pv,hW,hres _ _ _,hargs _ hold,hvars _ hold,World.keptBut_mono (fun p hp=>⟨hp, ?_⟩) (hb.frame (·∈before)),fun _=> ?_⟩
 ·rw[hps,List.mem_append] at hp;exact Or.inr hp
 obtain⟨_,_,_,_,_,hz,hn⟩:=hW;refine⟨hok,_,_,([]++pa)++pv,⟨[]++pa,pv,trodAll_append (hargs _ (fun _ _=>rfl)) (hres _ _ _),hvars _ (fun _ _=>rfl),rfl, ?_, ?_⟩, ?_⟩
 ·intro b off hp;have hin:MemPlace.cell b off∈before:=by rw[hps];simpa using hp
  rw[hb.frozen (hlt _ hin)];exact hz b off hin
 ·intro ha;have:=hn ha;rw[hps] at this;simpa using this
 intro p hp _;rw[hps];simpa using hp
theorem Kr (hl:laidOutB P=true) {W W':World} {sp:Nat→Bool}: ∀(ts:List TypeId) (vs:List Value) (ds:List (DataW H)) (ps:List MemPlace),(∀t∈ts,P.readableRec t=true∧t<P.types.size)→
    DataW.TrodAll enc P W 0 (fun _=>true) true ts vs ds ps→(∀p∈ps,W.sameAt W' p)→(∀p∈ps,sp p.block=true)→DataW.TrodAll enc P W' 0 sp true ts vs ds ps
 |[],vs,ds,ps,_,h,_,_=>by
  obtain⟨rfl,rfl,rfl⟩:=trodAll_nil h;exact trodAll_mk0
 |t::ts,vs,ds,ps,hr,h,hsame,hs=>by
  obtain⟨v,vs',d,ds',p,q,rfl,rfl,rfl,hd,hrest⟩:=trodAll_cons h;refine trodAll_cons_mk (WideElems.Trod_stays hl (hr t (by simp)).1 (hr t (by simp)).2 hd (fun x hx=>hsame x (by simp[hx])) (fun x hx=>hs x (by simp[hx]))) ?_;exact Kr hl ts vs' ds' q (fun t ht=>hr t (by simp[ht])) hrest (fun x hx=>hsame x (by simp[hx])) (fun x hx=>hs x (by simp[hx]))
theorem Aao {f:Func} {s:ChangeSpec} {apart fresh handsOn again:Bool} {W W':World} {args:Array Value} {ds gs:List (DataW H)} {before:List MemPlace}
    (hl:laidOutB P=true) (hread':f.params.toList.all (fun t=>P.readableRec t&&decide (t<P.types.size))=true) (hv:s.vars=[])
    (hW:DataW.Whole enc P f.params.toList s.vars apart W args.toList ds gs before)
    (hfn:s.fn H ds= {results:=[.lit (.bool true)],args:=ds}) {b:TypeId} (hr:f.resultTypes=#[b]) (hb:P.underlying b=some .bool)
    (hbelow:Below W.heap.size W W'):s.post enc P f apart fresh handsOn again W args (.bool true) W':=by
 have hread: ∀t∈f.params.toList,P.readableRec t=true∧t<P.types.size:=fun t ht=>by
  have:=List.all_eq_true.1 hread' t ht;simpa using this
 have hlt: ∀p∈before,p.block<W.heap.size:=fun p hp=>hW.lt p hp
 have hW':=hW;obtain⟨p,q,hA,hV,rfl,_,_⟩:=hW;have hgs:gs=[]∧q=[]:=by
  rw[hv] at hV;exact trodVars_none hV
 obtain⟨rfl,rfl⟩:=hgs;rw[List.append_nil] at hW' hlt;refine PH (pa:=p) (pv:=[]) hW' ?_ ?_ ?_ (by simp) hbelow ?_
 ·intro b' sp hd;rw[List.append_nil,hfn,hr];exact trodAll_cons_mk (shut_bool hb true) trodAll_mk0
 ·intro sp hsp;rw[List.append_nil,hfn];exact Kr hl _ _ _ _ hread hA (fun x hx=>hbelow.same (hlt x hx)) hsp
 ·intro sp hsp;rw[hv];rw[List.append_nil,hfn];exact rfl
 exact ok_one hr rfl (okWide_bool_mk hb true)
end
end Go.Proofs.YtjjhceeookpieaaGreat
end
section
open Go Go.RowKit Go.WideShapes Go.ChangeShapes Go.Deep
namespace Go.Proofs.YtjjhceeookpieaaGreat
section
variable {H:Type} {enc:TypeId×Value→H} {P:Program} {w:World}
theorem Afa {z:Int} (h:(Lit.int .u8 z).wf =true):0≤z∧z<256:=by
 simpa[Lit.wf,IntKind.min,IntKind.max,IntKind.signed,IntKind.bits,Int.le_iff_lt_add_one] using h
end
end Go.Proofs.YtjjhceeookpieaaGreat
end
section
open Go Go.RowKit Go.WideShapes Go.ChangeShapes Go.Deep
namespace Go.Proofs.YtjjhceeookpieaaGreat
end Go.Proofs.YtjjhceeookpieaaGreat
end
section
open Go Go.RowKit Go.WideShapes Go.ChangeShapes Go.Deep
namespace Go.Proofs.YtjjhceeookpieaaGreat
def RK:Value→UInt8
 | .int _ z=>UInt8.ofNat z.toNat
 |_=>0
theorem QE (l:List Value) (h: ∀v∈l,∃z:Int,v= .int .u8 z∧0≤z∧z<256):bs (l.map RK)=l:=by
 induction l with
 |nil=>rfl
 |cons v l ih=>
  obtain⟨z,rfl,h1,h2⟩:=h v (by simp);have:=ih (fun v hv=>h v (by simp[hv]));unfold bs at*;rw[List.map_cons,List.map_cons,this]
  congr 1
  simp only[RK,GV]
  congr 1
  simp;omega
theorem YA {H:Type} {enc:TypeId×Value→H} {P:Program} {w:World} {r:Reach} {b0 n:Nat} {t e:TypeId} {v:Value} {d:DataW H} {ps:List MemPlace} (ht:P.underlying t=some (.array n e)) (he:P.underlying e=some (.int .u8)) (ce:P.cellsOf e=1) (ct:P.cellsOf t=n)
    (hval:Value.okWide P w r b0 t v) (h:DataW.Trod enc P w 0 (fun _=>true) true t v d ps):
    ∃hs:List UInt8,v= .agg (Aw hs)∧hs.length=n:=by
 simp only[Value.okWide,ht] at hval;obtain⟨cs,rfl,h2,_⟩:=hval;obtain⟨fuel,hf⟩:=h;obtain⟨xs,m,rfl,_,hl,hxl,hel⟩:=DataW.trod_array ht hf;have hcs:(Value.agg cs).cells.toList =cs.toList:=rfl;rw[hcs] at hl hel;rw[ct] at h2 hl;have hb: ∀v∈cs.toList,∃z:Int,v= .int .u8 z∧0≤z∧z<256:=by
  intro v hv;obtain⟨i,hi,rfl⟩:=List.mem_iff_getElem.1 hv;have h1:=hel i (by omega);rw[ce,Nat.mul_one,List.getElem?_eq_getElem (by omega)] at h1;obtain⟨z,h3,_,h4⟩:=DataW.trod_int he h1;have h5:(cs.toList.drop i).take 1=[cs.toList[i]]:=by
   rw[List.drop_eq_getElem_cons hi];rfl
  rw[h5] at h3;injection h3 with h3 _
  obtain⟨h6,h7⟩:=Afa h4;exact⟨z,h3,h6,h7⟩
 refine⟨cs.toList.map RK, ?_,by simpa using h2⟩
 congr 1
 unfold Aw;rw[QE _ hb]
end Go.Proofs.YtjjhceeookpieaaGreat
end
section
open Go Go.RowKit Go.WideShapes Go.ChangeShapes Go.Deep
namespace Go.Proofs.YtjjhceeookpieaaGreat
def Xa (P:Program) (α:Type) [Af α] (t:TypeId):Prop:=
 ∀(H:Type) (enc:TypeId×Value→H) (w:World) (base:Nat) (spare:Nat→Bool) (held:Bool) (fuel:Nat) (cs:List Value) (x:DataW H×List MemPlace),DataW.trod enc P w base spare held fuel t cs=some x→∃a:α,cs=Af.enc a
theorem VO {P:Program} {t e:TypeId} (ht:P.underlying t=some (.array 32 e)) (he:P.underlying e=some (.int .u8)) (ce:P.cellsOf e=1) (ct:P.cellsOf t=32):Xa P Ak t:=by
 intro H enc w base spare held fuel cs x hf;obtain⟨xs,m,rfl,_,hl,hxl,hel⟩:=DataW.trod_array ht hf;rw[ct] at hl;have hb: ∀v∈cs,∃z:Int,v= .int .u8 z∧0≤z∧z<256:=by
  intro v hv;obtain⟨i,hi,rfl⟩:=List.mem_iff_getElem.1 hv;have h1:=hel i (by omega);rw[ce,Nat.mul_one,List.getElem?_eq_getElem (by omega)] at h1;obtain⟨z,h3,_,h4⟩:=DataW.trod_int he h1;have h5:(cs.drop i).take 1=[cs[i]]:=by
   rw[List.drop_eq_getElem_cons hi];rfl
  rw[h5] at h3;injection h3 with h3 _
  obtain⟨h6,h7⟩:=Afa h4;exact⟨z,h3,h6,h7⟩
 exact⟨⟨cs.map RK,by rw[List.length_map];exact hl⟩,(QE _ hb).symm⟩
theorem YC {w:World} {a:Addr} {n:Nat} {cs:List Value} (h:w.cells? 0 a n=some cs) (j:Nat) (u:Value) (hj:cs[j]? =some u):w.cell? (a.add j)=some u:=by
 obtain⟨_,h1,h2⟩:=World.cells?_some h;rw[h2 j (by rw[←h1];exact(List.getElem?_eq_some_iff.1 hj).1)];exact hj
end Go.Proofs.YtjjhceeookpieaaGreat
end
section
open Go Go.RowKit Go.WideShapes Go.ChangeShapes Go.Deep
namespace Go.Proofs.YtjjhceeookpieaaGreat
end Go.Proofs.YtjjhceeookpieaaGreat
end
section
open Go Go.RowKit Go.WideShapes Go.ChangeShapes Go.Deep
namespace Go.Proofs.YtjjhceeookpieaaGreat
def RL (P:Program) (w:World) (α:Type) [Af α] (p:α→Prop) (t:TypeId):Prop:=
 ∀(H:Type) (enc:TypeId×Value→H) (spare:Nat→Bool) (held:Bool) (fuel:Nat) (cs:List Value) (x:DataW H×List MemPlace),DataW.trod enc P w 0 spare held fuel t cs=some x→∃a:α,cs=Af.enc a∧p a
theorem VP {α:Type} [Af α] {p:α→Prop} {H:Type} {enc:TypeId×Value→H} {P:Program} {w:World} {spare:Nat→Bool} {held:Bool} {fuel:Nat} {t e:TypeId} {cs:List Value} {x:DataW H×List MemPlace} (ht:P.underlying t=some (.slice e)) (hc:P.cellsOf e=Af.size α) (hp:0<Af.size α) (hr:RL P w α p e)
    (hf:DataW.trod enc P w 0 spare held fuel t cs=some x):
    ∃(A:Option Addr) (n c:Nat) (l:List α),cs=[.slice A n c]∧l.length=n∧n≤maxLen∧Rd w A (cellsOf l)∧n≤c∧(∀b∈l,p b)∧((∀y∈x.1.weights P t,y≤reachBytes)→n*P.bytesOf e≤reachBytes):=by
 rcases DataW.trod_slice ht hf with⟨hcs,_⟩|⟨a,n,cap,elems,rest,m,_,hcs,hx,_,hlc,hcm,hel,hrow,_⟩
 ·exact⟨_,_,_,[],hcs,rfl,by simp,Rd.nil _ _,Nat.le_refl _,(fun b hb=>by cases hb),(fun _=>by simp)⟩
 have hone: ∀i,i<n→∃b:α,w.cells? 0 (a.add (i*Af.size α)) (Af.size α)=some (Af.enc b)∧p b:=fun i hi=>by
   have h1:=hrow i hi;rw[hc,List.getElem?_eq_getElem (by omega)] at h1;obtain⟨cs,h2,h3⟩:=Option.bind_eq_some_iff.1 h1;obtain⟨b,rfl,hb⟩:=hr _ _ _ _ _ _ _ h3;exact⟨b,h2,hb⟩
 obtain⟨F,hF⟩: ∃F:Nat→α,∀i,i<n→w.cells? 0 (a.add (i*Af.size α)) (Af.size α)=some (Af.enc (F i))∧p (F i):=
  ⟨fun i=>if h:i<n then Classical.choose (hone i h) else Af.zero,fun i hi=>by simp only[dif_pos hi];exact Classical.choose_spec (hone i hi)⟩
 refine⟨_,_,_,(List.range n).map F,hcs,by simp,by omega,fun k u hk=>⟨a,rfl, ?_⟩,hlc,fun b hb=> ?_,fun hw=> ?_⟩
 ·have hlen:k<n*Af.size α:=by
    have:=(List.getElem?_eq_some_iff.1 hk).1;rwa[AB,List.length_map,List.length_range] at this
  have hi:k/Af.size α<n:=(Nat.div_lt_iff_lt_mul hp).2 hlen;have hj:k%Af.size α<Af.size α:=Nat.mod_lt _ hp;have hat:=Da ((List.range n).map F) (k/Af.size α) (by simpa using hi);have AG:((List.range n).map F).getD (k/Af.size α) Af.zero=F (k/Af.size α):=by simp[List.getD_eq_getElem?_getD,hi]
  rw[AG] at hat;have hk2:(Af.enc (F (k/Af.size α)))[k%Af.size α]? =some u:=by
   rw[←hat,List.getElem?_take,if_pos hj,List.getElem?_drop,Nat.mul_comm,Nat.div_add_mod];exact hk
  have hcl:=YC (hF _ hi).1 _ _ hk2;rw[Is,Nat.mul_comm,Nat.div_add_mod] at hcl;exact hcl
 ·obtain⟨i,hi,rfl⟩:=List.mem_map.1 hb;exact(hF i (List.mem_range.1 hi)).2
 subst hx;have h5:=hw ((elems.length+rest.length)*P.bytesOf e) (by simp[DataW.weights,ht]);exact Nat.le_trans (Nat.mul_le_mul_right _ (by omega)) h5
theorem VQ {α:Type} [Af α] {p:α→Prop} {H:Type} {enc:TypeId×Value→H} {P:Program} {w:World} {r:Reach} {b0:Nat} {t e:TypeId} {v:Value} {d:DataW H} {ps:List MemPlace} (ht:P.underlying t=some (.slice e)) (hc:P.cellsOf e=Af.size α) (hp:0<Af.size α) (hr:RL P w α p e)
    (hval:Value.okWide P w r b0 t v) (h:DataW.Trod enc P w 0 (fun _=>true) true t v d ps):
    ∃(A:Option Addr) (n c:Nat) (l:List α),v= .slice A n c∧l.length=n∧n≤maxLen∧Rd w A (cellsOf l)∧n≤c∧(∀b∈l,p b)∧((∀y∈d.weights P t,y≤reachBytes)→n*P.bytesOf e≤reachBytes):=by
 obtain⟨A,n,c,rfl⟩:=okWide_slice ht hval;obtain⟨fuel,hf⟩:=h;obtain⟨A',n',c',l,h1,h2,h3,h4,h5,h6,h7⟩:=VP ht hc hp hr hf;have h1':(Value.slice A n c)= .slice A' n' c':=by
  have:[Value.slice A n c]=[.slice A' n' c']:=h1;injection this
 exact⟨A',n',c',l,h1',h2,h3,h4,h5,h6,h7⟩
theorem seg {α:Type} (cs:List α) (a b c:Nat) (h:a+b=c):cs.drop a=(cs.drop a).take b++cs.drop c:=by
 rw[←h,←List.drop_drop,List.take_append_drop]
theorem TP {α:Type} (cs:List α) (a b:Nat) (h:cs.length=a+b):cs.drop a=(cs.drop a).take b:=by
 rw[List.take_of_length_le];rw[List.length_drop];omega
end Go.Proofs.YtjjhceeookpieaaGreat
end
section
open Go Go.RowKit Go.WideShapes Go.ChangeShapes Go.Deep
namespace Go.Proofs.YtjjhceeookpieaaGreat
def Alc (P:Program) (w:World) (α:Type) [Af α] (p q:α→Prop) (t:TypeId):Prop:=
 ∀(H:Type) (enc:TypeId×Value→H) (spare:Nat→Bool) (held:Bool) (fuel:Nat) (cs:List Value) (x:DataW H×List MemPlace),DataW.trod enc P w 0 spare held fuel t cs=some x→∃a:α,cs=Af.enc a∧p a∧((∀y∈x.1.weights P t,y≤reachBytes)→q a)
instance Ahx:Af La:=⟨1,fun r=>[r.v],fun _=>rfl,fun r u hu=>by
    rw[List.mem_singleton.1 hu];rfl,⟨none,0,[]⟩⟩
instance (priority:=600) Af.byte:Af UInt8:=⟨1,fun b=>[GV b],fun _=>rfl,fun b u hu=>by
    rw[List.mem_singleton.1 hu];rfl,0⟩
def Anb (w:World) (r:La):Prop:=Rd w r.A (bs r.p)∧r.p.length≤maxLen∧r.p.length≤r.c
end Go.Proofs.YtjjhceeookpieaaGreat
end
