/- Base -/
import Derived.WalkKit
import Derived.Handy
import Derived.BigQuiet
import Derived.Deep.QuietTactic
import Derived.Deep.Draws
import Derived.Deep.AppendLies
import Derived.Maps.AppendAt
import Derived.Lib.Hide
import Derived.OneCell
import Derived.WalkSpells
import Derived.Lib.SlBytesConst
import Derived.Laws.Rows
import Derived.Deep.MidRow
import Derived.Deep.WholeRow
import Derived.Laws.CopyOwn
import Derived.Laws.ResultCell
import Derived.Deep.RegionHeld
section
open Go Go.RowKit
namespace Go.Proofs.YtjjhceeookpieaaGreat
theorem Fe (a:Addr) (n:Nat):(a.add n).block =a.block:=by unfold Addr.add;split<;>rfl
theorem Is (a:Addr) (i j:Nat):(a.add i).add j=a.add (i+j):=by
 unfold Addr.add;by_cases hi:i=0<;>by_cases hj:j=0<;>simp[hi,hj,Nat.add_assoc]
theorem Be (a:Addr):a.add 0=a:=by simp[Addr.add]
theorem DQ (g j:Nat):(⟨g,0,none⟩:Addr).add j=⟨g,j,none⟩:=by
 unfold Addr.add;split<;>simp_all
structure Au (S:Nat→Prop) (w w':World):Prop where
 os:w'.os=w.os
 tape:w'.tape=w.tape
 output:w'.output=w.output
 size:w.heap.size≤w'.heap.size
 block: ∀k,k<w.heap.size→¬S k→w'.heap[k]? =w.heap[k]?
def Ab:Nat→Prop:=fun _=>False
section
variable {S T:Nat→Prop} {a b w w':World}
theorem Au.refl (S:Nat→Prop) (w:World):Au S w w:=⟨rfl,rfl,rfl,Nat.le_refl _,fun _ _ _=>rfl⟩
theorem Au.trans {c:World} (h:Au S a b) (k:Au T b c) (ht: ∀x,x<a.heap.size→T x→S x):Au S a c:=
 ⟨k.os.trans h.os,k.tape.trans h.tape,k.output.trans h.output,Nat.le_trans h.size k.size,fun i hi hs=>
  (k.block i (Nat.lt_of_lt_of_le hi h.size) (fun hT=>hs (ht i hi hT))).trans (h.block i hi hs)⟩
theorem Au.mono (h:Au S w w') (ht: ∀x,x<w.heap.size→S x→T x):Au T w w':=
 ⟨h.os,h.tape,h.output,h.size,fun i hi hs=>h.block i hi (fun hS=>hs (ht i hi hS))⟩
theorem Au.drewN (h:Au S a w) (n:Nat):Au S a (w.drewN n):=⟨h.os,h.tape,h.output,h.size,h.block⟩
theorem Au.drew (h:Au S a w):Au S a w.drew:=⟨h.os,h.tape,h.output,h.size,h.block⟩
theorem Au.alloc (h:Au S a w) (o:Obj):Au S a (w.alloc o):=
 h.trans (T:=S) ⟨rfl,rfl,rfl,by simp,fun k hk _=>Below.heap_alloc _ _ _ hk⟩ (fun _ _ h=>h)
theorem Au.setCell (h:Au S a w) {p:Addr} (hp:p.block<a.heap.size→S p.block) (u:Value):Au S a (w.setCell p u):=
 h.trans (T:=fun k=>k=p.block) ⟨rfl,rfl,rfl,by simp[World.setCell],fun k _ hn=>Below.heap_setCell _ _ _ _ hn⟩ (fun x hx e=>by subst e;exact hp hx)
theorem Au.of_grown {row:Option Nat} (h:w.grownBy w' row):Au (fun k=>row=some k) w w':=
 ⟨h.os,h.tape,h.output,h.size,fun k hk hn=>h.block k hk (fun e=>hn e.symm)⟩
theorem Au.grown {row:Option Nat} (h:Au S a w) (hg:w.grownBy w' row) (hr: ∀k,k<a.heap.size→row=some k→S k):Au S a w':=
 h.trans (Au.of_grown hg) hr
theorem Au.of_below (h:Below w.heap.size w w') (S:Nat→Prop):Au S w w':=⟨h.os,h.tape,h.output,h.size,fun k hk _=>h.block k hk⟩
theorem Au.below (h:Au S w w') {B:Nat} (hB:B≤w.heap.size) (hS: ∀k,S k→B≤k):Below B w w':=
 ⟨h.os,h.tape,h.output,h.size,fun k hk=>h.block k (by omega) (fun hs=>by have:=hS k hs;omega)⟩
theorem Au.below' (h:Au Ab w w'):Below w.heap.size w w':=h.below (Nat.le_refl _) (fun _ h=>h.elim)
theorem Au.cell (h:Au S w w') {p:Addr} {v:Value} (hc:w.cell? p=some v) (hS: ¬S p.block):w'.cell? p=some v:=
 (World.cell?_of_block (h.block p.block (World.block_lt_of_cell? w p hc) hS)).trans hc
end
def Rd (w:World) (A:Option Addr) (vs:List Value):Prop:=∀k u,vs[k]? =some u→∃ad,A=some ad∧w.cell? (ad.add k)=some u
section
variable {S:Nat→Prop} {w w':World} {A:Option Addr} {vs:List Value}
theorem Rd.nil (w:World) (A:Option Addr):Rd w A []:=fun k u h=>by simp at h
def Dx (S:Nat→Prop) (A:Option Addr) (vs:List Value):Prop:=vs≠[]→∀ad,A=some ad→¬S ad.block
theorem Rd.chg (h:Rd w A vs) (hc:Au S w w') (hS:Dx S A vs):Rd w' A vs:=fun k u hk=>by
 obtain⟨ad,rfl,hcell⟩:=h k u hk;exact⟨ad,rfl,hc.cell hcell (by rw[Fe];exact hS (by rintro rfl;simp at hk) ad rfl)⟩
theorem Dx.none (A:Option Addr) (vs:List Value):Dx Ab A vs:=fun _ _ _ h=>h
theorem Rd.lt (h:Rd w A vs) (hn:0<vs.length): ∃ad,A=some ad∧ad.block<w.heap.size:=by
 obtain⟨ad,rfl,hc⟩:=h 0 vs[0] (by simp[hn]);exact⟨ad,rfl,by have:=World.block_lt_of_cell? w _ hc;rwa[Fe] at this⟩
theorem Rd.apart (h:Rd w A vs) (hS: ∀k,S k→w.heap.size≤k):Dx S A vs:=fun hne ad e hs=>by
 obtain⟨ad',e',hl⟩:=h.lt (List.length_pos_iff.2 hne);rw[e] at e';injection e' with e'
 subst e';have:=hS _ hs;omega
theorem Rd.later (h:Rd w A vs) (hc:Au Ab w w'):Rd w' A vs:=h.chg hc (Dx.none A vs)
theorem Rd.drewN (h:Rd w A vs) (n:Nat):Rd (w.drewN n) A vs:=h
theorem Rd.alloc (h:Rd w A vs) (o:Obj):Rd (w.alloc o) A vs:=fun k u hk=>by
 obtain⟨ad,rfl,hcell⟩:=h k u hk;exact⟨ad,rfl,by rw[World.cell?_alloc_lt w o _ (World.block_lt_of_cell? w _ hcell)];exact hcell⟩
theorem Rd.setCell (h:Rd w A vs) {p:Addr} (u:Value) (hp: ∀ad,A=some ad→ad.block≠p.block):Rd (w.setCell p u) A vs:=fun k u' hk=>by
 obtain⟨ad,rfl,hcell⟩:=h k u' hk;exact⟨ad,rfl,by rw[World.cell?_setCell_other w p _ u (fun e=>hp ad rfl (by rw[←Fe ad k,e]))];exact hcell⟩
theorem Rd.drop (h:Rd w A vs) (n:Nat):Rd w (A.map (·.add n)) (vs.drop n):=fun k u hk=>by
 obtain⟨ad,rfl,hc⟩:=h (n+k) u (by rwa[List.getElem?_drop] at hk);exact⟨ad.add n,rfl,by rw[Is];exact hc⟩
theorem Rd.take (h:Rd w A vs) (n:Nat):Rd w A (vs.take n):=fun k u hk=>h k u (by
 rw[List.getElem?_take] at hk;split at hk<;>simp_all)
end
theorem Rd.lit (w:World) (l:List Value) (e:TypeId) {f:Nat×Nat}:Rd (w.alloc (.cells l.toArray e f)) (some ⟨w.heap.size,0,none⟩) l:=fun k u hk=>
 ⟨_,rfl,by rw[DQ,(show(w.alloc (.cells l.toArray e f)).cell? ⟨w.heap.size,k,none⟩=l.toArray[k]? from cell_of_row _ _ k _ e f (heap_alloc_new w _))];simpa using hk⟩
def Cm (w:World) (e:TypeId) (size:Nat) (A:Option Addr) (n c:Nat) (xs:List Value):Prop:=w.ownsRow 0 e size (.slice A n c) n xs
def AT (w:World) (g:Nat) (t:TypeId) (cs:Array Value):Prop:=w.heap[g]? =some (.cells cs t (0,0))
section
variable {S:Nat→Prop} {w w':World} {g:Nat} {t:TypeId} {cs:Array Value}
theorem AT.lt (h:AT w g t cs):g<w.heap.size:=lt_of_block h
theorem AT.cell (h:AT w g t cs) (i:Nat):w.cell? ⟨g,i,none⟩=cs[i]? :=cell_of_row w g i cs t (0,0) h
theorem AT.frozen (h:AT w g t cs) (i:Nat):w.frozen? ⟨g,i,none⟩=false:=by
 unfold AT at h;simp[World.frozen?,h]
theorem AT.new (w:World) (t:TypeId) (cs:Array Value):AT (w.alloc (.cells cs t)) w.heap.size t cs:=heap_alloc_new w _
theorem AT.drewN (h:AT w g t cs) (n:Nat):AT (w.drewN n) g t cs:=h
theorem AT.alloc (h:AT w g t cs) (o:Obj):AT (w.alloc o) g t cs:=(Below.heap_alloc w o g h.lt).trans h
theorem AT.set_ (h:AT w g t cs) (i:Nat) (u:Value):AT (w.setCell ⟨g,i,none⟩ u) g t (cs.setIfInBounds i u):=by
 unfold AT at h⊢;simp[World.setCell,Array.getElem?_modify,h]
theorem AT.far (h:AT w g t cs) {p:Addr} (hp:g≠p.block) (u:Value):AT (w.setCell p u) g t cs:=(Below.heap_setCell w p u g hp).trans h
theorem AT.chg (h:AT w g t cs) (hc:Au S w w') (hS: ¬S g):AT w' g t cs:=(hc.block g h.lt hS).trans h
end
section
variable {S:Nat→Prop} {w w':World} {e:TypeId} {size n c:Nat} {A:Option Addr} {xs:List Value}
theorem Cm.len (h:Cm w e size A n c xs):xs.length=n*size:=h.1
theorem Cm.nil (w:World) (e:TypeId) (size:Nat):Cm w e size none 0 0 []:=World.ownsRow_nil w 0 e size
theorem Cm.rd (h:Cm w e size A n c xs):Rd w A xs:=fun k u hk=>by
 rcases h.2 with⟨e,hn⟩|⟨g,cap,cur,hv,_⟩
 ·have hl:=h.1;rw[hn] at hl;have:xs=[]:=List.eq_nil_of_length_eq_zero (by simpa using hl);subst this;simp at hk
 have hA:A=some ⟨g,0,none⟩:=by injection hv
 subst hA;exact⟨_,rfl,World.ownsRow.cells (h:w.ownsRow 0 e size (.slice (some ⟨g,0,none⟩) n c) n xs) (g:=g) rfl k u hk⟩
theorem Cm.chg (h:Cm w e size A n c xs) (hc:Au S w w') (hS: ∀ad,A=some ad→¬S ad.block):Cm w' e size A n c xs:=by
 obtain⟨h1,h2⟩:=h;refine⟨h1, ?_⟩;rcases h2 with h2|⟨g,cap,cur,hv,hg,hh,r⟩
 ·exact .inl h2
 have hA:A=some ⟨g,0,none⟩:=by injection hv
 exact .inr ⟨g,cap,cur,hv,hg,(hc.block g (lt_of_block hh) (hS _ hA)).trans hh,r⟩
theorem Cm.lt (h:Cm w e size A n c xs) {ad:Addr} (hA:A=some ad):ad.block<w.heap.size:=by
 subst hA;exact(World.ownsRow.lt h ad.block rfl).2
theorem Cm.form (h:Cm w e size A n c xs):(A=none∧n=0∧c=0∧xs=[])∨∃g cur,A=some ⟨g,0,none⟩∧AT w g e cur∧n≤c∧c≤maxLen∧cur.size=c*size∧cur.toList.take (n*size)=xs:=by
 obtain⟨h1,h2⟩:=h;rcases h2 with⟨hv,hn⟩|⟨g,cap,cur,hv,hg,hh,h3,h4,h5,h6⟩
 ·injection hv with ha _ hc
  subst hn;exact .inl ⟨ha,rfl,hc,List.eq_nil_of_length_eq_zero (by simpa using h1)⟩
 injection hv with ha _ hc
 subst hc;exact .inr ⟨g,cur,ha,hh,h3,h4,h5,h6⟩
theorem Cm.of_blk {g:Nat} {cur:Array Value} (hb:AT w g e cur) (hn:n≤c) (hm:c≤maxLen) (hs:cur.size=c*size) (hx:cur.toList.take (n*size)=xs):
    Cm w e size (some ⟨g,0,none⟩) n c xs:=
 ⟨by rw[←hx,List.length_take,Array.length_toList,hs,Nat.min_eq_left (Nat.mul_le_mul_right _ hn)], .inr ⟨g,c,cur,rfl,Nat.zero_le _,hb,hn,hm,hs,hx⟩⟩
theorem Cm.drewN (h:Cm w e size A n c xs) (k:Nat):Cm (w.drewN k) e size A n c xs:=h
theorem Cm.alloc (h:Cm w e size A n c xs) (o:Obj):Cm (w.alloc o) e size A n c xs:=World.ownsRow.alloc h o
theorem Cm.new (w:World) (e:TypeId) (size n:Nat) (cs:Array Value) (hm:n≤maxLen) (hs:cs.size=n*size):
    Cm (w.alloc (.cells cs e)) e size (some ⟨w.heap.size,0,none⟩) n n cs.toList:=
 Cm.of_blk (AT.new w e cs) (Nat.le_refl _) hm hs (by rw[←hs,←Array.length_toList,List.take_length])
theorem Cm.far (h:Cm w e size A n c xs) {p:Addr} (hp: ∀ad,A=some ad→ad.block≠p.block) (u:Value):Cm (w.setCell p u) e size A n c xs:=
 h.chg (S:=fun k=>k=p.block) ⟨rfl,rfl,rfl,by simp[World.setCell],fun k _ hn=>Below.heap_setCell _ _ _ _ hn⟩ hp
theorem Cm.cutTo (h:Cm w e size A n c xs) {m:Nat} (hm:m≤n):Cm w e size A m c (xs.take (m*size)):=by
 rcases h.form with⟨rfl,rfl,rfl,rfl⟩|⟨g,cur,rfl,hb,h3,h4,h5,h6⟩
 ·obtain rfl:m=0:=by omega
  simpa using Cm.nil w e size
 refine Cm.of_blk hb (by omega) h4 h5 ?_;rw[←h6,List.take_take,Nat.min_eq_left (Nat.mul_le_mul_right _ hm)]
end
def Wf (g:Nat) (A:Option Addr):Nat→Prop:=fun k=>k=g∨∃ad,A=some ad∧ad.block=k
def Cb (w:World) (A A':Option Addr):Prop:=A'=A∨∃ad,A'=some ad∧w.heap.size≤ad.block
theorem Cb.refl (w:World) (A:Option Addr):Cb w A A:= .inl rfl
theorem Cb.trans {w w1:World} {A A1 A2:Option Addr} (h:Cb w A A1) (hz:w.heap.size≤w1.heap.size) (k:Cb w1 A1 A2):Cb w A A2:=by
 rcases k with rfl|⟨ad,rfl,hk⟩
 ·exact h
 exact .inr ⟨ad,rfl,by omega⟩
theorem En {w w1 w2:World} {g:Nat} {A A1 A2:Option Addr} (h:Au (Wf g A) w w1) (m:Cb w A A1) (h2:Au (Wf g A1) w1 w2) (m2:Cb w1 A1 A2):
    Au (Wf g A) w w2∧Cb w A A2:=by
 refine⟨h.trans h2 (fun x hx hT=> ?_),m.trans h.size m2⟩;rcases hT with rfl|⟨ad,rfl,rfl⟩
 ·exact .inl rfl
 rcases m with rfl|⟨ad',h3,h4⟩
 ·exact .inr ⟨ad,rfl,rfl⟩
 injection h3 with h3
 subst h3;omega
theorem Au.step {S:Nat→Prop} {w a b:World} (h:Au Ab w a) (k:Au S a b) (hS: ∀x,S x→w.heap.size≤x):Au Ab w b:=
 h.trans k (fun x hx hs=>by have:=hS x hs;omega)
structure Vl (P:Program) (t e:TypeId) (size bytes:Nat) (z:Value):Prop where
 under:P.underlying t=some (.slice e)
 info:(P.info? e).map (fun i=>(i.zero,i.size,i.bytes))=some (some z,size,bytes)
 zsize:z.cells.size=size
 pos:0<size
section
variable {P:Program} {w:World} {t e:TypeId} {size bytes:Nat} {z:Value}
theorem NP (E:Vl P t e size bytes z) (ty:TypeId) {A:Option Addr} {n c:Nat} {xs:List Value} (hown:Cm w e size A n c xs)
    {A2:Option Addr} {m c2:Nat} {news:List Value} (hr:Rd w A2 news) (hl:news.length=m*size) (h1: ∀u∈news,u.oneCell'=true)
    (h63:n+m≤maxLen) (hbytes:(n+m)*bytes≤140737488355328) (hnil:A2=none→m=0):
    ∃A' c' w',(Builtin.append_ #[t,t] ty #[.slice A n c, .slice A2 m c2]).run P w= .ok (.slice A' (n+m) c') w'∧Cm w' e size A' (n+m) c' (xs++news)∧
     Au (fun k=>∃ad,A=some ad∧ad.block=k) w w'∧(A'=A∨A'=some ⟨w.heap.size,0,none⟩):=by
 obtain⟨i,hi,hz,hs,hb⟩:=info_parts E.info;rcases A2 with _|ad2
 ·obtain rfl:=hnil rfl;have hn:news=[]:=List.eq_nil_of_length_eq_zero (by simpa using hl);subst hn;refine⟨A,c,w, ?_,by simpa using hown,Au.refl _ _, .inl rfl⟩;rcases hown.form with⟨rfl,rfl,rfl,rfl⟩|⟨g,cur,rfl,_,h3,_⟩
  ·simp[Builtin.append_,run_underlying E.under,sizeOf,typeInfo,hi,Builtin.lenOf,Builtin.firstCells]
  simp[Builtin.append_,run_underlying E.under,sizeOf,typeInfo,hi,Builtin.lenOf,Builtin.firstCells,h3,storeCells]
 have hcells: ∀j u,news[j]? =some u→w.cell? (ad2.add j)=some u:=fun j u hu=>by
   obtain⟨ad',h,hc⟩:=hr j u hu;injection h with h
   subst h;exact hc
 obtain⟨v',w',hrun,h2,h3,h4,h5⟩:=run_append_own_at (P:=P) w 0 t ty e i z size bytes E.under hi hz hs hb E.zsize E.pos (.slice A n c) n xs hown ad2 m c2 news hl hcells h1 h63 hbytes (Nat.zero_le _);have hform: ∃A' c',v'= .slice A' (n+m) c'∧(A'=A∨A'=some ⟨w.heap.size,0,none⟩):=by
  rcases h2.2 with⟨rfl,hn⟩|⟨g,cap,cur,rfl,_⟩
  ·rw[hn];refine⟨none,0,rfl, ?_⟩;obtain⟨h6,_⟩:=h4.1 rfl;injection h6 with h6
   exact .inl h6.symm
  refine⟨_,cap,rfl, ?_⟩;rcases h5 with h5|h5
  ·rcases A with _|ad
   ·simp[Value.ownBlock] at h5
   rcases hown.form with⟨h,_⟩|⟨g',cur',h,_⟩
   ·cases h
   injection h with h
   subst h;simp[Value.ownBlock] at h5;subst h5;exact .inl rfl
  simp[Value.ownBlock] at h5;subst h5;exact .inr rfl
 obtain⟨A',c',rfl,h6⟩:=hform;refine⟨A',c',w',hrun,h2,(Au.of_grown h3).mono (fun x _ hx=> ?_),h6⟩;rcases A with _|ad
 ·simp[Value.ownBlock] at hx
 exact⟨ad,rfl,by simpa[Value.ownBlock] using hx⟩
theorem Pw {o:Oper} {a:Act} {K:Act→World→Prop} {Q:Exit→Act→World→Prop} (s x:Operand) (E:Vl P t e size bytes z)
    (ho:o.op= .call {callee:= .builtin .append,args:=#[s,x],argTypes:=#[t,t]})
    {A:Option Addr} {n c:Nat} {xs:List Value} (hs:a.eval s= .slice A n c) (hown:Cm w e size A n c xs)
    {A2:Option Addr} {m c2:Nat} {news:List Value} (hx:a.eval x= .slice A2 m c2) (hr:Rd w A2 news) (hl:news.length=m*size) (h1: ∀u∈news,u.oneCell'=true)
    (h63:n+m≤maxLen) (hbytes:(n+m)*bytes≤140737488355328) (hnil:A2=none→m=0)
    (h: ∀A' c' w',Cm w' e size A' (n+m) c' (xs++news)→Au (fun k=>∃ad,A=some ad∧ad.block=k) w w'→(A'=A∨A'=some ⟨w.heap.size,0,none⟩)→K (a.put o.dst (.slice A' (n+m) c')) w'):o.wp P a w K Q:=by
 obtain⟨A',c',w',hrun,h2,h3,h4⟩:=NP (P:=P) E o.type hown hr hl h1 h63 hbytes hnil (c2:=c2);unfold Oper.wp execOp;simp only[ho,resolve,invoke,builtin,Sem.run_bind,Sem.run_pure,Result.andThen_ok,List.map_toArray,List.map_cons,List.map_nil,hs,hx,hrun];exact h A' c' w' h2 h3 h4
theorem Dj {ops:Array Oper} {rest:List Oper} {o:Oper} {a:Act} {Q:Exit→Act→World→Prop} (hgd:o.guard=none) (s x:Operand) (E:Vl P t e size bytes z)
    (ho:o.op= .call {callee:= .builtin .append,args:=#[s,x],argTypes:=#[t,t]})
    {A:Option Addr} {n c:Nat} {xs:List Value} (hs:a.eval s= .slice A n c) (hown:Cm w e size A n c xs)
    {A2:Option Addr} {m c2:Nat} {news:List Value} (hx:a.eval x= .slice A2 m c2) (hr:Rd w A2 news) (hl:news.length=m*size) (h1: ∀u∈news,u.oneCell'=true)
    (h63:n+m≤maxLen) (hbytes:(n+m)*bytes≤140737488355328) (hnil:A2=none→m=0)
    (h: ∀A' c' w',Cm w' e size A' (n+m) c' (xs++news)→Au (fun k=>∃ad,A=some ad∧ad.block=k) w w'→(A'=A∨A'=some ⟨w.heap.size,0,none⟩)→wpList P ops Q rest (a.put o.dst (.slice A' (n+m) c')) w'):wpList P ops Q (o::rest) a w:=
 wpList_plain hgd fun _ hK=>Pw s x E ho hs hown hx hr hl h1 h63 hbytes hnil fun A' c' w' h2 h3 h4=>hK _ _ (h A' c' w' h2 h3 h4)
end
def SY:Nat:=140737488355328
theorem Rl {n:Nat} (h:Hid (n≤SY)):n≤140737488355328:=h
theorem ED {n:Nat} (h:n≤140737488355328):Hid (n≤SY):=h
theorem Px {p:Value→Prop} {v:Value} (h:p v): ∀u∈[v],p u:=by
 intro u hu;rw[List.mem_singleton.1 hu];exact h
theorem Cf {P:Program} {w:World} {t e:TypeId} {z:Value} {ops:Array Oper} {rest:List Oper} {o:Oper} {a:Act} {Q:Exit→Act→World→Prop} (hgd:o.guard=none) (s x:Operand) {bytes:Nat} (E:Vl P t e 1 bytes z)
    (ho:o.op= .call {callee:= .builtin .append,args:=#[s,x],argTypes:=#[t,t]}) (hby:bytes≤1)
    {A:Option Addr} {n c:Nat} {xs:List Value} (hs:a.eval s= .slice A n c) (hown:Cm w e 1 A n c xs)
    {ad:Addr} {c2:Nat} {v:Value} (hx:a.eval x= .slice (some ad) 1 c2) (hr:Rd w (some ad) [v]) (h1:v.oneCell'=true) (hb:Hid (n+1≤SY))
    (h: ∀A' c' w',Cm w' e 1 A' (n+1) c' (xs++[v])→Au (fun k=>∃ad,A=some ad∧ad.block=k) w w'→(A'=A∨A'=some ⟨w.heap.size,0,none⟩)→wpList P ops Q rest (a.put o.dst (.slice A' (n+1) c')) w'):wpList P ops Q (o::rest) a w:=
 Dj hgd s x E ho hs hown hx hr rfl (Px h1) (by have:=Rl hb;unfold maxLen;omega)
  (by have:=Rl hb;have:=Nat.mul_le_mul_left (n+1) hby;omega) (fun h=>by cases h) h
theorem Bw {P:Program} {w:World} {t e:TypeId} {z:Value} {ops:Array Oper} {rest:List Oper} {o:Oper} {a:Act} {Q:Exit→Act→World→Prop} (hgd:o.guard=none) (s x:Operand) {bytes:Nat} (E:Vl P t e 1 bytes z)
    (ho:o.op= .call {callee:= .builtin .append,args:=#[s,x],argTypes:=#[t,t]}) (hby:bytes≤1)
    {A:Option Addr} {n c:Nat} {xs:List Value} (hs:a.eval s= .slice A n c) (hown:Cm w e 1 A n c xs)
    {A2:Option Addr} {m c2:Nat} {vs:List Value} (hx:a.eval x= .slice A2 m c2) (hr:Rd w A2 vs) (hl:Hid (vs.length=m)) (h1: ∀u∈vs,u.oneCell'=true) (hb:Hid (n+m≤SY))
    (h: ∀A' c' w',Cm w' e 1 A' (n+m) c' (xs++vs)→Au (fun k=>∃ad,A=some ad∧ad.block=k) w w'→(A'=A∨A'=some ⟨w.heap.size,0,none⟩)→wpList P ops Q rest (a.put o.dst (.slice A' (n+m) c')) w'):wpList P ops Q (o::rest) a w:=
 Dj hgd s x E ho hs hown hx hr (by rw[hl.out,Nat.mul_one]) h1 (by have:=Rl hb;unfold maxLen;omega)
  (by have:=Rl hb;have:=Nat.mul_le_mul_left (n+m) hby;omega) (fun e=>by
   subst e;have:=hl.out;rcases vs with _|⟨v,vs⟩
   ·simpa using this.symm
   obtain⟨ad,h,_⟩:=hr 0 v rfl;cases h) h
def GV (b:UInt8):Value:= .int .u8 b.toNat
def bs (xs:List UInt8):List Value:=xs.map GV
theorem Am (xs:List UInt8):(bs xs).length =xs.length:=List.length_map _
theorem EW (xs ys:List UInt8):bs xs++bs ys=bs (xs++ys):=List.map_append.symm
theorem Ei (xs:List UInt8): ∀u∈bs xs,u.oneCell'=true:=by
 intro u hu;obtain⟨b,_,rfl⟩:=List.mem_map.1 hu;rfl
theorem It (xs:List UInt8) (n:Nat):(bs xs).take n=bs (xs.take n):=List.map_take.symm
theorem ZK {xs ys:List UInt8} (h:bs xs=bs ys):xs=ys:=by
 refine List.map_inj_right (fun a b h=> ?_)|>.1 h;simpa[GV,UInt8.toNat_inj,Int.ofNat_inj] using h
theorem Rd.byte {w:World} {A:Option Addr} {xs:List UInt8} (h:Rd w A (bs xs)) {k:Nat} (hk:k<xs.length):
    ∃ad b,A=some ad∧xs[k]? =some b∧w.cell? (ad.add k)=some (.int .u8 b.toNat):=by
 obtain⟨ad,hA,hc⟩:=h k (GV xs[k]) (by simp[bs,hk]);exact⟨ad,xs[k],hA,by simp[hk],hc⟩
structure La where
 A:Option Addr
 c:Nat
 p:List UInt8
def La.v (r:La):Value:= .slice r.A r.p.length r.c
def NQ (l:List La):List Value:=l.map La.v
def Iu (w:World) (l:List La):Prop:=∀r∈l,Rd w r.A (bs r.p)
def Qn (S:Nat→Prop) (l:List La):Prop:=∀r∈l,Dx S r.A (bs r.p)
theorem Iu.chg {S:Nat→Prop} {w w':World} {l:List La} (h:Iu w l) (hc:Au S w w') (ha:Qn S l):Iu w' l:=fun r hr=>(h r hr).chg hc (ha r hr)
theorem Iu.later {w w':World} {l:List La} (h:Iu w l) (hc:Au Ab w w'):Iu w' l:=fun r hr=>(h r hr).later hc
theorem Iu.apart {S:Nat→Prop} {w:World} {l:List La} (h:Iu w l) (hS: ∀k,S k→w.heap.size≤k):Qn S l:=fun r hr=>(h r hr).apart hS
end Go.Proofs.YtjjhceeookpieaaGreat
end
section
open Go Go.RowKit
namespace Go.Proofs.YtjjhceeookpieaaGreat
section
variable {S:Nat→Prop} {w w':World} {g g':Nat} {t:TypeId} {cs old:Array Value}
theorem AT.row_ (h:AT w g t old) (cs:Array Value):AT (w.setRow g cs) g t cs:=setRow_heap w g old cs t (0,0) h
theorem AT.rowFar (h:AT w g t cs) (hne:g≠g') (cs':Array Value):AT (w.setRow g' cs') g t cs:=(setRow_other w g' g cs' hne).trans h
theorem Au.setRow {a:World} (h:Au S a w) (hp:g<a.heap.size→S g) (cs:Array Value):Au S a (w.setRow g cs):=
 h.trans (T:=fun k=>k=g) ⟨rfl,rfl,rfl,by simp,fun k _ hn=>setRow_other w g k cs hn⟩ (fun x hx e=>by subst e;exact hp hx)
end
theorem AT.new1 (w:World) (o:Obj) (t:TypeId) (cs:Array Value):AT ((w.alloc o).alloc (.cells cs t)) (w.heap.size+1) t cs:=by
 have h:=AT.new (w.alloc o) t cs;simpa using h
def AK (ws:List Nat):Array Value:=(ws.map fun x:Nat=>Value.int .u32 (x:Int)).toArray
theorem CZ (ws:List Nat) (i:Nat) (h:i<ws.length):(AK ws)[i]? =some (.int .u32 (ws.getD i 0:Nat)):=by
 simp[AK,List.getD_eq_getElem?_getD,List.getElem?_eq_getElem h]
theorem FC (ws:List Nat):(AK ws).size =ws.length:=by simp[AK]
theorem EM (ws:List Nat):(AK ws).all (·.oneCell')=true:=by
 rw[Array.all_eq_true_iff_forall_mem];intro x hx;simp[AK] at hx;obtain⟨y,_,rfl⟩:=hx;rfl
theorem Hz (ws:List Nat) (i x:Nat):(AK ws).setIfInBounds i (.int .u32 (x:Int))=AK (ws.set i x):=by
 apply Array.ext';simp[AK,List.map_set]
def Aw (xs:List UInt8):Array Value:=(bs xs).toArray
theorem JM (xs:List UInt8) (i:Nat) (h:i<xs.length):(Aw xs)[i]? =some (.int .u8 ((xs.getD i 0).toNat :Int)):=by
 simp[Aw,bs,GV,List.getD_eq_getElem?_getD,List.getElem?_eq_getElem h]
theorem Dk (xs:List UInt8):(Aw xs).size =xs.length:=by simp[Aw,bs]
theorem Ek (xs:List UInt8):(Aw xs).all (·.oneCell')=true:=by
 rw[Array.all_eq_true_iff_forall_mem];intro x hx;simp[Aw,bs] at hx;obtain⟨y,_,rfl⟩:=hx;rfl
theorem Lb (xs:List UInt8) (i:Nat) (x:UInt8):(Aw xs).setIfInBounds i (.int .u8 (x.toNat:Int))=Aw (xs.set i x):=by
 apply Array.ext';simp[Aw,bs,List.map_set,GV]
theorem Iv {w:World} {g:Nat} {t:TypeId} {xs:List UInt8} (h:AT w g t (Aw xs)):Rd w (some ⟨g,0,none⟩) (bs xs):=fun k u hk=>by
 refine⟨_,rfl, ?_⟩;rw[DQ,h.cell k];simpa[Aw] using hk
theorem Gq {P:Program} {w:World} {ops:Array Oper} {rest:List Oper} {o:Oper} {a:Act} {Q:Exit→Act→World→Prop} (hgd:o.guard=none) (d s:Operand) (dT sT:TypeId)
    (ho:o.op= .call {callee:= .builtin .copy,args:=#[d,s],argTypes:=#[dT,sT]}) (elem:TypeId) (hu:P.underlying dT=some (.slice elem)) (hsz:(P.info? elem).map (·.size)=some 1)
    {g off dLen dCap:Nat} {sp:Option Addr} {sLen sCap:Nat} (hd:a.eval d= .slice (some ⟨g,off,none⟩) dLen dCap) (hs:a.eval s= .slice sp sLen sCap)
    {cur:List UInt8} {t:TypeId} (hb:AT w g t (Aw cur)) {xs:List UInt8} (hr:Rd w sp (bs xs)) (hxl:Hid (xs.length=sLen)) (hle:sLen≤dLen) (hfit:Hid (off+sLen≤cur.length))
    (h: ∀w',Hid (AT w' g t (Aw (cur.take off++xs++cur.drop (off+sLen))))→Hid (Au (fun k=>k=g) w w')→wpList P ops Q rest (a.put o.dst (.int .i64 sLen)) w'):wpList P ops Q (o::rest) a w:=by
 have hxl:=hxl.out;have hfit:=hfit.out;rcases Nat.eq_zero_or_pos sLen with h0|h0
 ·subst h0;obtain rfl:xs=[]:=List.eq_nil_of_length_eq_zero hxl;refine wpList_copy_nothing hgd d s dT sT ho elem hu hsz (some ⟨g,off,none⟩) sp dLen dCap 0 sCap hd hs (by simp) ?_;exact h w (Lib.hid (by simpa using hb)) (Au.refl _ _)
 obtain⟨ad,rfl,_⟩:=hr.lt (by rw[Am];omega);refine wpList_copy_own hgd d s dT sT ho elem hu hsz g off dLen dCap ad sLen sCap hd hs (Aw cur) t hb (bs xs) (by rw[Am,hxl];exact(Nat.min_eq_left hle).symm) (fun j v hj=>by
  obtain⟨ad',e,h⟩:=hr j v hj;injection e with e
  subst e;exact h) (by rw[Am,Dk];omega) (Ei xs) ?_
 have e1:((Aw cur).toList.take off++(bs xs++(Aw cur).toList.drop (off+(bs xs).length))).toArray =Aw (cur.take off++xs++cur.drop (off+sLen)):=by
  rw[Am,hxl];simp[Aw,bs]
 rw[e1,Am,hxl];exact h _ (hb.row_ _) (Au.setRow (S:=fun k=>k=g) (Au.refl _ _) (fun _=>rfl) _)
end Go.Proofs.YtjjhceeookpieaaGreat
end
section
open Go Go.RowKit
namespace Go.Proofs.YtjjhceeookpieaaGreat
class MG (p:Prop):Prop where
 out:p
class Ag (S:outParam (Nat→Prop)) (w:outParam World) (w':World):Prop where
 chg:Au S w w'
class AW (w:outParam World) (z:Nat):Prop where
 eq:z=w.heap.size
class HB (w:World) (g:Nat) (t:outParam TypeId) (cs:outParam (Array Value)):Prop where
 out:AT w g t cs
class HR (w:World) (A:Option Addr) (vs:outParam (List Value)):Prop where
 out:Rd w A vs
class HO (w:World) (e:outParam TypeId) (size:outParam Nat) (A:Option Addr) (n c:outParam Nat) (xs:outParam (List Value)):Prop where
 out:Cm w e size A n c xs
class Aj (w:outParam World) (A:Option Addr):Prop where
 out: ∀ad,A=some ad→w.heap.size≤ad.block
class Nw (w0 w:World):Prop where
 out:Au Ab w0 w
def only(z:Nat):Nat→Prop:=fun k=>k=z
def An (A:Option Addr):Nat→Prop:=fun k=>∃ad,A=some ad∧ad.block=k
class As (S:Nat→Prop) (g:Nat):Prop where
 out: ¬S g
class BW (S:Nat→Prop) (A:Option Addr):Prop where
 out: ∀ad,A=some ad→¬S ad.block
class Cn (w:World) (S:Nat→Prop):Prop where
 out: ∀k,S k→w.heap.size≤k
instance (w:World):Ag Ab w w.drew:=⟨(Au.refl _ _).drew⟩
instance (w:World) (n:Nat):Ag Ab w (w.drewN n):=⟨(Au.refl _ _).drewN n⟩
instance (w:World) (o:Obj):Ag Ab w (w.alloc o):=⟨(Au.refl _ _).alloc o⟩
instance (w:World):Nw w w:=⟨Au.refl _ _⟩
instance (w:World):Cn w Ab:=⟨fun _ h=>h.elim⟩
instance Cn.only_ (w0 w:World) (z:Nat) [b:AW w z] [n:Nw w0 w]:Cn w0 (only z):=⟨fun k h=>by
 have h':k=z:=h;rw[h',b.eq];exact n.out.size⟩
instance Cn.row_ (w0 w:World) (A:Option Addr) [b:Aj w A] [n:Nw w0 w]:Cn w0 (An A):=⟨fun k ⟨ad,h,e⟩=>by
 rw[←e];exact Nat.le_trans n.out.size (b.out ad h)⟩
instance Cn.none_ (w0:World):Cn w0 (An none):=⟨fun k ⟨ad,h,_⟩=>by cases h⟩
instance Nw.snoc (S:Nat→Prop) (w0 w w':World) [s:Ag S w w'] [n:Nw w0 w] [a:Cn w0 S]:Nw w0 w':=⟨n.out.step s.chg a.out⟩
theorem Aa {w0 w:World} [n:Nw w0 w]:Ag Ab w0 w:=⟨n.out⟩
instance (g:Nat):As Ab g:=⟨id⟩
instance (A:Option Addr):BW Ab A:=⟨fun _ _ h=>h⟩
instance (S:Nat→Prop):BW S none:=⟨fun _ h=>by cases h⟩
instance As.born (w:World) (z g:Nat) (t:TypeId) (cs:Array Value) [b:AW w z] [h:HB w g t cs]:As (only z) g:=⟨fun e=>by
 have e':g=z:=e;have:=h.out.lt;rw[e',b.eq] at this;omega⟩
instance As.later (w:World) (z g:Nat) (t:TypeId) (cs:Array Value) [b:AW w g] [h:HB w z t cs]:As (only z) g:=⟨fun e=>by
 have e':g=z:=e;have:=h.out.lt;rw[←e',b.eq] at this;omega⟩
instance As.rowNew (w:World) (A:Option Addr) (g:Nat) (t:TypeId) (cs:Array Value) [b:Aj w A] [h:HB w g t cs]:As (An A) g:=⟨fun⟨ad,e,hk⟩=>by
 have h1:=b.out ad e;have h2:=h.out.lt;omega⟩
instance As.rowOld (w:World) (e:TypeId) (size n c:Nat) (A:Option Addr) (xs:List Value) (g:Nat) [b:AW w g] [h:HO w e size A n c xs]:As (An A) g:=⟨fun⟨ad,e,hk⟩=>by
 have h1:=h.out.lt e;have h2:=b.eq;omega⟩
instance As.rowNone (g:Nat):As (An none) g:=⟨fun⟨ad,e,hk⟩=>by cases e⟩
theorem DC {w:World} {A:Option Addr} {vs:List Value} (h:Rd w A vs) (hne:vs≠[]) {ad:Addr} (e:A=some ad):ad.block<w.heap.size:=by
 obtain⟨ad',e',hl⟩:=h.lt (List.length_pos_iff.2 hne);rw[e] at e';injection e' with e'
 subst e';exact hl
class Ff (S:Nat→Prop) (A:Option Addr) (vs:List Value):Prop where
 out:Dx S A vs
instance (A:Option Addr) (vs:List Value):Ff Ab A vs:=⟨fun _ _ _ h=>h⟩
instance Ff.nil (S:Nat→Prop) (A:Option Addr):Ff S A []:=⟨fun h=>absurd rfl h⟩
instance Ff.none (S:Nat→Prop) (vs:List Value):Ff S none vs:=⟨fun _ _ h=>by cases h⟩
instance Ff.born (w:World) (z:Nat) (A:Option Addr) (vs:List Value) [b:AW w z] [h:HR w A vs]:Ff (only z) A vs:=⟨fun hne ad e hk=>by
 have h1:=DC h.out hne e;have hk':ad.block=z:=hk;rw[hk',b.eq] at h1;omega⟩
instance Ff.newA (w:World) (z:Nat) (t:TypeId) (cs:Array Value) (A:Option Addr) (vs:List Value) [b:Aj w A] [h:HB w z t cs]:Ff (only z) A vs:=⟨fun _ ad e hk=>by
 have h1:=b.out ad e;have h2:=h.out.lt;have hk':ad.block=z:=hk;omega⟩
instance Ff.rowNew (w:World) (B A:Option Addr) (vs:List Value) [b:Aj w B] [h:HR w A vs]:Ff (An B) A vs:=⟨fun hne ad e ⟨bd,e',hk⟩=>by
 have h1:=DC h.out hne e;have h2:=b.out bd e';omega⟩
instance Ff.rowOld (w:World) (e:TypeId) (size n c:Nat) (B A:Option Addr) (xs vs:List Value) [b:Aj w A] [h:HO w e size B n c xs]:Ff (An B) A vs:=⟨fun hne ad e ⟨bd,e',hk⟩=>by
 have h1:=h.out.lt e';have h2:=b.out ad e;omega⟩
instance BW.born (w:World) (z:Nat) (e:TypeId) (size n c:Nat) (A:Option Addr) (xs:List Value) [b:AW w z] [h:HO w e size A n c xs]:BW (only z) A:=⟨fun ad e hk=>by
 have h1:=h.out.lt e;have hk':ad.block=z:=hk;rw[hk',b.eq] at h1;omega⟩
instance BW.newA (w:World) (z:Nat) (t:TypeId) (cs:Array Value) (A:Option Addr) [b:Aj w A] [h:HB w z t cs]:BW (only z) A:=⟨fun ad e hk=>by
 have h1:=b.out ad e;have h2:=h.out.lt;have hk':ad.block=z:=hk;omega⟩
instance BW.rowNew (w:World) (e:TypeId) (size n c:Nat) (B A:Option Addr) (xs:List Value) [b:Aj w B] [h:HO w e size A n c xs]:BW (An B) A:=⟨fun ad e ⟨bd,e',hk⟩=>by
 have h1:=h.out.lt e;have h2:=b.out bd e';omega⟩
instance BW.rowOld (w:World) (e:TypeId) (size n c:Nat) (B A:Option Addr) (xs:List Value) [b:Aj w A] [h:HO w e size B n c xs]:BW (An B) A:=⟨fun ad e ⟨bd,e',hk⟩=>by
 have h1:=h.out.lt e';have h2:=b.out ad e;omega⟩
instance HB.step (S:Nat→Prop) (w w':World) (g:Nat) (t:TypeId) (cs:Array Value) [s:Ag S w w'] [h:HB w g t cs] [o:As S g]:HB w' g t cs:=⟨h.out.chg s.chg o.out⟩
instance HR.step (S:Nat→Prop) (w w':World) (A:Option Addr) (vs:List Value) [s:Ag S w w'] [h:HR w A vs] [o:Ff S A vs]:HR w' A vs:=⟨h.out.chg s.chg o.out⟩
instance HO.step (S:Nat→Prop) (w w':World) (e:TypeId) (size n c:Nat) (A:Option Addr) (xs:List Value) [s:Ag S w w'] [h:HO w e size A n c xs] [o:BW S A]:HO w' e size A n c xs:=⟨h.out.chg s.chg o.out⟩
instance (priority:=900) HR.ofOwn (w:World) (e:TypeId) (size n c:Nat) (A:Option Addr) (xs:List Value) [h:HO w e size A n c xs]:HR w A xs:=⟨h.out.rd⟩
instance (priority:=900) HR.ofBlk (w:World) (z:Nat) (t:TypeId) (xs:List UInt8) [h:HB w z t (Aw xs)]:HR w (some ⟨z,0,none⟩) (bs xs):=⟨Iv h.out⟩
instance HR.nil_ (w:World):HR w none []:=⟨Rd.nil _ _⟩
instance HB.new (w:World) (cs:Array Value) (t:TypeId):HB (w.alloc (.cells cs t)) w.heap.size t cs:=⟨AT.new w t cs⟩
theorem Aj.of_none (w:World):Aj w none:=⟨fun _ h=>by cases h⟩
theorem Aj.of_born {w:World} {z:Nat} [b:AW w z] (k:Nat):Aj w (some ⟨z,k,none⟩):=⟨fun ad h=>by
 injection h with h
 subst h;exact Nat.le_of_eq b.eq.symm⟩
theorem Aj.mono {w0 w:World} {A:Option Addr} (h:Aj w A) [n:Nw w0 w]:Aj w0 A:=⟨fun ad e=>Nat.le_trans n.out.size (h.out ad e)⟩
theorem Aj.grown {w0 w:World} {A A':Option Addr} [h:Aj w0 A] [n:Nw w0 w] (k:A'=A∨A'=some ⟨w.heap.size,0,none⟩):Aj w0 A':=⟨fun ad e=>by
 rcases k with k|k
 ·exact h.out ad (k.symm.trans e)
 rw[k] at e;injection e with e
 subst e;exact n.out.size⟩
theorem HB.eq {w:World} {g:Nat} {t:TypeId} {xs ys:List UInt8} (h:HB w g t (Aw xs)) (e:xs=ys):HB w g t (Aw ys):=e▸h
class Eb (P:Program) (t:TypeId) (cs:outParam (Array Value)):Prop where
 out: ∃v,(∀w,(zeroValue t).run P w= .ok v w)∧v.cells=cs
class Cl (P:Program) (t:TypeId) (n:outParam Nat):Prop where
 size:(P.info? t).map (·.size)=some n
 row: ∃d,P.underlying t=some d∧(match d with| .struct _| .array _ _=>true|_=>false)=true
def b8 (n:Int):UInt8:=UInt8.ofNat (n%256).toNat
theorem Rm (n:Int):n%256=((b8 n).toNat :Int):=by
 unfold b8;rw[UInt8.toNat_ofNat'];omega
theorem Ada (b:UInt8):b8 (b.toNat:Int)=b:=by
 have h:=b.toNat_lt;apply UInt8.toNat_inj.1;unfold b8;rw[UInt8.toNat_ofNat'];omega
theorem ZL (n:Int):b8 (n%256)=b8 n:=by
 unfold b8;rw[Int.emod_emod_of_dvd _ (by decide)]
theorem ZM {n:Int} (h0:0≤n) (h1:n<256):n=((b8 n).toNat :Int):=by
 rw[←Rm];omega
def Ej (l:List Int) (k:Nat):Int:=l.getD k 0
def Eo (l:List UInt8) (k:Nat):UInt8:=l.getD k 0
theorem SZ (l:List Int) (k:Nat) (n:Int) (h:k<l.length):Ej (l.set k n) k=n:=by simp[Ej,List.getD_eq_getElem?_getD,h]
def Df (l:List Int):Array Value:=(l.map fun x=>Value.int .i64 x).toArray
theorem Ta (l:List Int) (k:Nat) (hk:k<l.length):(Df l)[k]? =some (.int .i64 (l.getD k 0)):=by
 simp[Df,List.getD_eq_getElem?_getD,List.getElem?_eq_getElem hk]
theorem Gy (l:List Int):(Df l).size =l.length:=by simp[Df]
theorem Lc (l:List Int):(Df l).all (·.oneCell')=true:=by
 rw[Array.all_eq_true_iff_forall_mem];intro x hx;simp[Df] at hx;obtain⟨y,_,rfl⟩:=hx;rfl
theorem ZN (l:List Int) (k:Nat) (n:Int):(Df l).setIfInBounds k (.int .i64 n)=Df (l.set k n):=by
 apply Array.ext';simp[Df,List.map_set]
class AL (P:Program) (t:TypeId):Prop where
 agg: ∀w,(isAgg t).run P w= .ok false w
 size1: ∀w,(sizeOf t).run P w= .ok 1 w
section
variable {P:Program} {ops:Array Oper} {rest:List Oper} {a:Act} {w:World} {Q:Exit→Act→World→Prop} {dst:Option Tmp} {ty:TypeId} {pos:String} {after:Array Edge}
def Stop (p:Prop):Prop:=p
theorem Ef {op:Op} {g:Nat×Bool} (hw:Region.wanted ⟨dst,op,ty,pos,after,some g⟩ (yielded ops a.tmps)=true) (h:wpList P ops Q (⟨dst,op,ty,pos,after,none⟩::rest) a w):wpList P ops Q (⟨dst,op,ty,pos,after,some g⟩::rest) a w:=by
 unfold wpList at h⊢;rw[if_pos (by simp[Region.wanted])] at h;rw[if_pos hw];exact h
theorem XH {t:TypeId} {cs:Array Value} [z:Eb P t cs]
    (h: ∀g w',AW w g→Ag Ab w w'→HB w' g t cs→wpList P ops Q rest (a.put dst (.pointer (some ⟨g,0,none⟩))) w'):
    wpList P ops Q (⟨dst, .alloc t,ty,pos,after,none⟩::rest) a w:=
 wpList_plain rfl fun K hK=>by
  obtain⟨v,hv,hc⟩:=z.out;unfold Oper.wp execOp;simp only[Instr.alloc,newVar,newRow,newObj,go_sem,Sem.run_bind,Sem.run_pure,Result.andThen_ok,hv];rw[←hc] at h;refine hK _ _ (h w.heap.size (w.alloc (.cells v.cells t)) ⟨rfl⟩ inferInstance ⟨AT.new w t _⟩)
theorem Av {o:Oper} (hg:o.guard=none) {v:Value} {w':World} (hrun:(execOp a.eval o).run P w= .ok (.value v) w') (h:wpList P ops Q rest (a.put o.dst v) w'):wpList P ops Q (o::rest) a w:=
 wpList_plain hg fun K hK=>by
  unfold Oper.wp;rw[hrun];exact hK _ _ h
theorem Ep {o:Oper} (hg:o.guard=none) {w':World} (hrun:(execOp a.eval o).run P w= .ok .skip w') (h:wpList P ops Q rest (a.put o.dst undef) w'):wpList P ops Q (o::rest) a w:=
 wpList_plain hg fun K hK=>by
  unfold Oper.wp;rw[hrun];exact hK _ _ h
theorem Dd {t:TypeId} {x:Operand} {v:Value} (hx:a.eval x=v) {cs:Array Value} (hc:v.cells=cs)
    (h: ∀g w',AW w g→Ag Ab w w'→HB w' g t cs→wpList P ops Q rest (a.put dst (.pointer (some ⟨g,0,none⟩))) w'):
    wpList P ops Q (⟨dst, .box t x,ty,pos,after,none⟩::rest) a w:=by
 subst hx hc;exact Av rfl (v:= .pointer (some ⟨w.heap.size,0,none⟩)) (w':=w.alloc (.cells (a.eval x).cells t)) rfl (h w.heap.size _ ⟨rfl⟩ inferInstance ⟨AT.new w t _⟩)
theorem MH {t:TypeId} {x:Operand} {cs:Array Value} (hx:a.eval x= .agg cs)
    (h: ∀g w',AW w g→Ag Ab w w'→HB w' g t cs→wpList P ops Q rest (a.put dst (.pointer (some ⟨g,0,none⟩))) w'):
    wpList P ops Q (⟨dst, .box t x,ty,pos,after,none⟩::rest) a w:=Dd hx rfl h
theorem Jj {t:TypeId} {x:Operand} {ik:IntKind} {n:Int} (hx:a.eval x= .int ik n)
    (h: ∀g w',AW w g→Ag Ab w w'→HB w' g t #[.int ik n]→wpList P ops Q rest (a.put dst (.pointer (some ⟨g,0,none⟩))) w'):
    wpList P ops Q (⟨dst, .box t x,ty,pos,after,none⟩::rest) a w:=Dd hx rfl h
theorem Kk {t:TypeId} {x:Operand} {A:Option Addr} {n c:Nat} (hx:a.eval x= .slice A n c)
    (h: ∀g w',AW w g→Ag Ab w w'→HB w' g t #[.slice A n c]→wpList P ops Q rest (a.put dst (.pointer (some ⟨g,0,none⟩))) w'):
    wpList P ops Q (⟨dst, .box t x,ty,pos,after,none⟩::rest) a w:=Dd hx rfl h
theorem MI {t:TypeId} {x:Operand} {b:ByteArray} (hx:a.eval x= .string b)
    (h: ∀g w',AW w g→Ag Ab w w'→HB w' g t #[.string b]→wpList P ops Q rest (a.put dst (.pointer (some ⟨g,0,none⟩))) w'):
    wpList P ops Q (⟨dst, .box t x,ty,pos,after,none⟩::rest) a w:=Dd hx rfl h
theorem Le {t:TypeId} {x:Operand} {b:Bool} (hx:a.eval x= .bool b)
    (h: ∀g w',AW w g→Ag Ab w w'→HB w' g t #[.bool b]→wpList P ops Q rest (a.put dst (.pointer (some ⟨g,0,none⟩))) w'):
    wpList P ops Q (⟨dst, .box t x,ty,pos,after,none⟩::rest) a w:=Dd hx rfl h
theorem MJ {t:TypeId} {x:Operand} {p:Option Addr} (hx:a.eval x= .pointer p)
    (h: ∀g w',AW w g→Ag Ab w w'→HB w' g t #[.pointer p]→wpList P ops Q rest (a.put dst (.pointer (some ⟨g,0,none⟩))) w'):
    wpList P ops Q (⟨dst, .box t x,ty,pos,after,none⟩::rest) a w:=Dd hx rfl h
theorem Qo {t:TypeId} {ps:List (Nat×Operand)} {cs:Array Value} (hr:(Instr.build t (ps.map fun(i,x)=>(i,a.eval x)).toArray).run P w= .ok (.agg cs) w)
    (h:wpList P ops Q rest (a.put dst (.agg cs)) w):wpList P ops Q (⟨dst, .build t ps.toArray,ty,pos,after,none⟩::rest) a w:=
 Av rfl (by
  show((Instr.build t (ps.toArray.map fun(i,x)=>(i,a.eval x)))>>=fun v=>pure (Next.value v)).run P w=_;rw[Sem.run_bind,List.map_toArray,hr];rfl) h
theorem Rn {x y:Operand} {tx ty':TypeId} {k:IntKind} {p q:Int} (hx:a.eval x= .int k p) (hy:a.eval y= .int k q) (h:wpList P ops Q rest (a.put dst (.int k (max p q))) w):
    wpList P ops Q (⟨dst, .call {callee:= .builtin .max,args:=#[x,y],argTypes:=#[tx,ty']},ty,pos,after,none⟩::rest) a w:=
 Av rfl (by
  have e:(if q>p then q else p)=max p q:=by omega
  simp only[execOp,resolve,invoke,builtin,Sem.run_bind,Sem.run_pure,Result.andThen_ok,List.map_toArray,List.map_cons,List.map_nil,hx,hy,run_max_int2,e]) h
theorem Lf {x y:Operand} {tx ty':TypeId} {k:IntKind} {p q:Int} (hx:a.eval x= .int k p) (hy:a.eval y= .int k q) (h:wpList P ops Q rest (a.put dst (.int k (min p q))) w):
    wpList P ops Q (⟨dst, .call {callee:= .builtin .min,args:=#[x,y],argTypes:=#[tx,ty']},ty,pos,after,none⟩::rest) a w:=
 Av rfl (by
  have e:(if q<p then q else p)=min p q:=by omega
  simp only[execOp,resolve,invoke,builtin,Sem.run_bind,Sem.run_pure,Result.andThen_ok,List.map_toArray,List.map_cons,List.map_nil,hx,hy,run_min_int2,e]) h
theorem BP {t:TypeId} {x:Operand} {g:Nat} (hx:a.eval x= .pointer (some ⟨g,0,none⟩)) {tb:TypeId} {cs:Array Value} (hb:HB w g tb cs) {n:Nat} (hr:Cl P t n) (hn:cs.size=n)
    (h:wpList P ops Q rest (a.put dst (.agg cs)) w):wpList P ops Q (⟨dst, .load t x,ty,pos,after,none⟩::rest) a w:=by
 obtain⟨d,hd1,hd2⟩:=hr.row;exact wpList_load_row rfl t x rfl g hx tb cs (0,0) d hb.out hd1 (by cases d<;>first|rfl|cases hd2) (by rw[hn];exact hr.size) h
theorem DR {t:TypeId} {x y:Operand} {g:Nat} {cs:Array Value} (hx:a.eval x= .pointer (some ⟨g,0,none⟩)) (hy:a.eval y= .agg cs) {tb:TypeId} {old:Array Value} (hb:HB w g tb old) {n:Nat} (hr:Cl P t n)
    (hn:cs.size=n) (ho:old.size=n) (h1:cs.all (·.oneCell')=true)
    (h: ∀w',Ag (only g) w w'→HB w' g tb cs→wpList P ops Q rest (a.put dst undef) w'):wpList P ops Q (⟨dst, .store t x y,ty,pos,after,none⟩::rest) a w:=
 wpList_store_row rfl t x y rfl g cs hx hy tb old hb.out (by rw[hn];exact hr.size) (by rw[ho,hn]) h1
  (h _ ⟨Au.setRow (S:=only g) (Au.refl _ _) (fun _=>rfl) _⟩ ⟨hb.out.row_ _⟩)
theorem EE {t:TypeId} {x:Operand} {g k:Nat} (hx:a.eval x= .pointer (some ⟨g,k,none⟩)) {tb:TypeId} {cs:Array Value} (hb:HB w g tb cs) [ht:AL P t] {v:Value} (hv:cs[k]? =some v)
    (h:wpList P ops Q rest (a.put dst v) w):wpList P ops Q (⟨dst, .load t x,ty,pos,after,none⟩::rest) a w:=
 Av rfl (by
  have hc:w.cell? ⟨g,k,none⟩=some v:=(hb.out.cell k).trans hv;show((Instr.loadAt t (a.eval x))>>=fun v=>pure (Next.value v)).run P w=_;rw[hx];simp[Instr.loadAt,Instr.sureAddr,loadVar,ht.agg w,hc]) h
theorem Vm {t:TypeId} {x:Operand} {ad:Addr} (hx:a.eval x= .pointer (some ad)) [ht:AL P t] {v:Value} (hv:w.cell? ad=some v)
    (h:wpList P ops Q rest (a.put dst v) w):wpList P ops Q (⟨dst, .load t x,ty,pos,after,none⟩::rest) a w:=
 Av rfl (by
  show((Instr.loadAt t (a.eval x))>>=fun v=>pure (Next.value v)).run P w=_;rw[hx];simp[Instr.loadAt,Instr.sureAddr,loadVar,ht.agg w,hv]) h
theorem AU {t:TypeId} {x y:Operand} {g k:Nat} {v:Value} (hx:a.eval x= .pointer (some ⟨g,k,none⟩)) (hy:a.eval y=v) {tb:TypeId} {cs:Array Value} (hb:HB w g tb cs) [ht:AL P t] (h1:v.oneCell'=true) (hk:k<cs.size)
    (h: ∀w',Ag (only g) w w'→HB w' g tb (cs.setIfInBounds k v)→wpList P ops Q rest (a.put dst undef) w'):wpList P ops Q (⟨dst, .store t x y,ty,pos,after,none⟩::rest) a w:=
 Ep rfl (w':=w.setCell ⟨g,k,none⟩ v) (by
  have hc:w.cell? ⟨g,k,none⟩=some cs[k]:=(hb.out.cell k).trans (by simp[hk]);have hf:=hb.out.frozen k;have hcs:v.cells=#[v]:=by cases v<;>simp_all [Value.oneCell',Value.cells]
  have hst:=run_store P w ⟨g,k,none⟩ v .plain h1;rw[hc,hf] at hst;show((Instr.storeAt t (a.eval x) (a.eval y))>>=fun _=>pure Next.skip).run P w=_;rw[hx,hy];simp[Instr.storeAt,Instr.sureAddr,storeVar,hcs,ht.size1 w,storeCells,Be,hst])
  (h _ ⟨Au.setCell (S:=only g) (Au.refl _ _) (p:=⟨g,k,none⟩) (fun _=>rfl) _⟩ ⟨hb.out.set_ k v⟩)
theorem Py {t:TypeId} {x y:Operand} {g k:Nat} {n:Int} (hx:a.eval x= .pointer (some ⟨g,k,none⟩)) (hy:a.eval y= .int .u8 n) {tb:TypeId} {xs:List UInt8} (hb:HB w g tb (Aw xs)) [ht:AL P t] (hk:k<xs.length) (hn:0≤n∧n<256)
    (h: ∀w',Ag (only g) w w'→HB w' g tb (Aw (xs.set k (b8 n)))→wpList P ops Q rest (a.put dst undef) w'):wpList P ops Q (⟨dst, .store t x y,ty,pos,after,none⟩::rest) a w:=
 AU hx hy hb rfl (by rw[Dk];exact hk) (fun w' s hb'=>h w' s (by rw[←Lb,←ZM hn.1 hn.2];exact hb'))
theorem Tb {t:TypeId} {x:Operand} {g k:Nat} (hx:a.eval x= .pointer (some ⟨g,k,none⟩)) {tb:TypeId} {l:List Int} (hb:HB w g tb (Df l)) (ht:AL P t) (hk:k<l.length)
    (h:wpList P ops Q rest (a.put dst (.int .i64 (Ej l k))) w):wpList P ops Q (⟨dst, .load t x,ty,pos,after,none⟩::rest) a w:=EE hx hb (Ta l k hk) h
theorem Ro {t:TypeId} {x:Operand} {g k:Nat} (hx:a.eval x= .pointer (some ⟨g,k,none⟩)) {tb:TypeId} {l:List UInt8} (hb:HB w g tb (Aw l)) (ht:AL P t) (hk:k<l.length)
    (h:wpList P ops Q rest (a.put dst (.int .u8 ((Eo l k).toNat :Int))) w):wpList P ops Q (⟨dst, .load t x,ty,pos,after,none⟩::rest) a w:=EE hx hb (JM l k hk) h
theorem Rp {t:TypeId} {x y:Operand} {g k:Nat} {n:Int} (hx:a.eval x= .pointer (some ⟨g,k,none⟩)) (hy:a.eval y= .int .i64 n) {tb:TypeId} {l:List Int} (hb:HB w g tb (Df l)) [ht:AL P t] (hk:k<l.length)
    (h: ∀w',Ag (only g) w w'→HB w' g tb (Df (l.set k n))→wpList P ops Q rest (a.put dst undef) w'):wpList P ops Q (⟨dst, .store t x y,ty,pos,after,none⟩::rest) a w:=
 AU hx hy hb rfl (by rw[Gy];exact hk) (fun w' s hb'=>h w' s (by rw[←ZN];exact hb'))
theorem Ia {d s:Operand} {dT sT elem:TypeId} (hu:P.underlying dT=some (.slice elem)) (hsz:(P.info? elem).map (·.size)=some 1)
    {g off dLen dCap:Nat} {sp:Option Addr} {sLen sCap:Nat} (hd:a.eval d= .slice (some ⟨g,off,none⟩) dLen dCap) (hs:a.eval s= .slice sp sLen sCap)
    {cur:List UInt8} {t:TypeId} (hb:HB w g t (Aw cur)) {xs:List UInt8} (hr:HR w sp (bs xs)) (hxl:xs.length=sLen) (hle:sLen≤dLen) (hfit:off+sLen≤cur.length)
    (h: ∀w',Ag (only g) w w'→HB w' g t (Aw (cur.take off++xs++cur.drop (off+sLen)))→wpList P ops Q rest (a.put dst (.int .i64 sLen)) w'):
    wpList P ops Q (⟨dst, .call {callee:= .builtin .copy,args:=#[d,s],argTypes:=#[dT,sT]},ty,pos,after,none⟩::rest) a w:=
 Gq rfl d s dT sT rfl elem hu hsz hd hs hb.out hr.out hxl hle hfit fun w' h1 h2=>h w' ⟨h2⟩ ⟨h1⟩
end
section
variable {P:Program} {fn:Func} {R:Ending→World→Prop} {a:Act} {w:World}
theorem Bo {p:Tmp} {ty:TypeId} (h:fn.results=#[.cell p ty]) {g:Nat} (hp:a.tmps.getD p undef= .pointer (some ⟨g,0,none⟩)) {tb:TypeId} {cs:Array Value} [hb:HB w g tb cs] {n:Nat} [hr:Cl P ty n] (hn:cs.size=n) (hd:a.defers=[]) (hR:R (.returned (.agg cs)) w):bodyPost P fn R .ret a w:=by
 obtain⟨d,hd1,hd2⟩:=hr.row;exact bodyPost_ret (results_cell_row h a.tmps w g tb cs (0,0) d hp hb.out hd1 (by cases d<;>first|rfl|cases hd2) (by rw[hn];exact hr.size)) hd hR
theorem AA {p u:Tmp} {ty:TypeId} (h:fn.results=#[.cell p ty, .tmp u]) {g:Nat} (hp:a.tmps.getD p undef= .pointer (some ⟨g,0,none⟩)) {v:Value} (hv:a.tmps.getD u undef=v) {tb:TypeId} {cs:Array Value} [hb:HB w g tb cs] {n:Nat} [hr:Cl P ty n] (hn:cs.size=n) (hd:a.defers=[]) (hR:R (.returned (.tuple #[.agg cs,v])) w):bodyPost P fn R .ret a w:=by
 obtain⟨d,hd1,hd2⟩:=hr.row;refine bodyPost_ret ?_ hd hR;rw[results_cell_tmp h,hp,hv];simp[asAddr,run_loadVar_row (P:=P) w g tb ty cs (0,0) d hb.out hd1 (by cases d<;>first|rfl|cases hd2) (by rw[hn];exact hr.size)]
theorem Lg {p u:Tmp} {ty:TypeId} (h:fn.results=#[.cell p ty, .tmp u]) {g:Nat} (hp:a.tmps.getD p undef= .pointer (some ⟨g,0,none⟩)) {b:Bool} {tb:TypeId} {cs:Array Value} [hb:HB w g tb cs] {n:Nat} [hr:Cl P ty n] (hn:cs.size=n) (hd:a.defers=[]) (hR:R (.returned (.tuple #[.agg cs, .bool b])) w) (hv:a.tmps.getD u undef= .bool b:=by rfl):bodyPost P fn R .ret a w:=
 AA h hp hv hn hd hR
end
structure Ak where
 l:List UInt8
 len:l.length=32
@[simp] theorem Ak.len_ (h:Ak):h.l.length=32:=h.len
theorem Ak.size (h:Ak):(Aw h.l).size =32:=by rw[Dk,h.len]
theorem Ak.ext' {a b:Ak} (h:a.l=b.l):a=b:=by cases a;cases b;cases h;rfl
end Go.Proofs.YtjjhceeookpieaaGreat
end
section
open Go Go.RowKit
namespace Go.Proofs.YtjjhceeookpieaaGreat
class Af (α:Type) where
 size:Nat
 enc:α→List Value
 len: ∀a,(enc a).length =size
 one: ∀a,∀u∈enc a,u.oneCell'=true
 zero:α
def cellsOf {α:Type} [Af α] (l:List α):List Value:=l.flatMap Af.enc
section
variable {α:Type} [Af α]
theorem AB (l:List α):(cellsOf l).length =l.length*Af.size α:=by
 induction l with
 |nil=>simp[cellsOf]
 |cons a l ih=>
  have e:cellsOf (a::l)=Af.enc a++cellsOf l:=rfl;rw[e,List.length_append,ih,Af.len,List.length_cons,Nat.succ_mul,Nat.add_comm]
theorem Er (l m:List α):cellsOf (l++m)=cellsOf l++cellsOf m:=by simp[cellsOf]
theorem Rq (l:List α) (x:α):cellsOf (l++[x])=cellsOf l++Af.enc x:=by simp[cellsOf]
theorem GX (l:List α): ∀u∈cellsOf l,u.oneCell'=true:=by
 intro u hu;obtain⟨a,_,h⟩:=List.mem_flatMap.1 hu;exact Af.one a u h
theorem Da (l:List α) (i:Nat) (hi:i<l.length):((cellsOf l).drop (i*Af.size α)).take (Af.size α)=Af.enc (l.getD i Af.zero):=by
 induction l generalizing i with
 |nil=>simp at hi
 |cons a l ih=>
  have e:cellsOf (a::l)=Af.enc a++cellsOf l:=rfl;rw[e];cases i with
  |zero=>rw[Nat.zero_mul,List.drop_zero,List.take_left' (Af.len a)];rfl
  |succ i=>
   have h2:(i+1)*Af.size α=(Af.enc a).length +i*Af.size α:=by rw[Af.len,Nat.succ_mul,Nat.add_comm]
   rw[h2,←List.drop_drop,List.drop_left,ih i (by simpa using hi)];simp
theorem EF (l:List α) (k:Nat):(cellsOf l).take (k*Af.size α)=cellsOf (l.take k):=by
 rcases Nat.lt_or_ge k l.length with h|h
 ·conv=>lhs;rw[←List.take_append_drop k l,Er]
  rw[List.take_left' (by rw[AB,List.length_take];congr 1;omega)]
 rw[List.take_of_length_le h,List.take_of_length_le (by rw[AB];exact Nat.mul_le_mul_right _ h)]
theorem Gr (l:List α) (k:Nat):(cellsOf l).drop (k*Af.size α)=cellsOf (l.drop k):=by
 rcases Nat.lt_or_ge k l.length with h|h
 ·conv=>lhs;rw[←List.take_append_drop k l,Er]
  rw[List.drop_left' (by rw[AB,List.length_take];congr 1;omega)]
 rw[List.drop_of_length_le h,List.drop_of_length_le (by rw[AB];exact Nat.mul_le_mul_right _ h)];rfl
theorem FM (l:List α) (i:Nat) (x:α) (hi:i<l.length):(cellsOf l).take (i*Af.size α)++Af.enc x++(cellsOf l).drop (i*Af.size α+Af.size α)=cellsOf (l.set i x):=by
 have h2:i*Af.size α+Af.size α=(i+1)*Af.size α:=by rw[Nat.succ_mul]
 rw[h2,EF,Gr,List.set_eq_take_append_cons_drop,if_pos hi];simp[cellsOf]
end
instance Ajh:Af Ak:=⟨32,fun h=>bs h.l,fun h=>by rw[Am,h.len],fun h=>Ei h.l,⟨List.replicate 32 0,rfl⟩⟩
def Aq:Ak:=⟨List.replicate 32 0,rfl⟩
def AG (l:List Ak) (i:Nat):Ak:=l.getD i Aq
instance HR.nilB (w:World):HR w none (bs []):=⟨Rd.nil _ _⟩
instance HR.nilH (w:World):HR w none (cellsOf ([]:List Ak)):=⟨Rd.nil _ _⟩
def DD (A:Option Addr) (k:Nat):Option Addr:=A.map (·.add k)
def AN (A:Option Addr) (k:Nat):Value:= .pointer (DD A k)
theorem Dp (ad:Addr) (k:Nat):DD (some ad) k=some (ad.add k):=rfl
instance HR.cut (w:World) (A:Option Addr) (l:List Ak) (i:Nat) [h:HR w A (cellsOf l)] [hi:MG (i<l.length)]:HR w (DD A (i*32)) (bs (AG l i).l):=⟨by
 have h1:=(h.out.drop (i*32)).take 32;rw[show((cellsOf l).drop (i*32)).take 32=bs (AG l i).l from Da l i hi.out] at h1;exact h1⟩
class Bm (P:Program) (t:TypeId) (e:outParam TypeId) (size bytes:outParam Nat) (z:outParam Value):Prop where
 out:Vl P t e size bytes z
class Mc (w:outParam World) (A:outParam (Option Addr)) (A':Option Addr):Prop where
 out:A'=A∨A'=some ⟨w.heap.size,0,none⟩
instance Aj.grew (w0 w:World) (A A':Option Addr) [g:Mc w A A'] [h:Aj w0 A] [n:Nw w0 w]:Aj w0 A':=Aj.grown (w:=w) g.out
instance (priority:=1100) Aj.grew0 (w:World) (A':Option Addr) [g:Mc w none A']:Aj w A':=⟨fun ad e=>by
 rcases g.out with k|k
 ·rw[k] at e;cases e
 rw[k] at e;injection e with e
 subst e;exact Nat.le_refl _⟩
instance Aj.born_ (w:World) (z k:Nat) [b:AW w z]:Aj w (some ⟨z,k,none⟩):=Aj.of_born k
instance As.grew (w:World) (A A':Option Addr) (g:Nat) (t:TypeId) (cs:Array Value) [k:Mc w A A'] [h:HB w g t cs] [o:As (An A) g]:As (An A') g:=⟨fun⟨ad,e,hk⟩=>by
 rcases k.out with k|k
 ·exact o.out ⟨ad,k.symm.trans e,hk⟩
 rw[k] at e;injection e with e
 subst e;have h1:=h.out.lt;have h2:w.heap.size=g:=hk;omega⟩
instance As.rowOnly (z k g:Nat) [o:As (only z) g]:As (An (some ⟨z,k,none⟩)) g:=⟨fun⟨ad,e,hk⟩=>by
 injection e with e
 subst e;exact o.out hk.symm⟩
instance BW.grew (w:World) (A A' B:Option Addr) (e:TypeId) (size n c:Nat) (xs:List Value) [k:Mc w A A'] [h:HO w e size B n c xs] [o:BW (An A) B]:BW (An A') B:=⟨fun bd eb ⟨ad,e,hk⟩=>by
 rcases k.out with k|k
 ·exact o.out bd eb ⟨ad,k.symm.trans e,hk⟩
 rw[k] at e;injection e with e
 subst e;have h1:=h.out.lt eb;have h2:w.heap.size=bd.block:=hk;omega⟩
instance AW.here (w:World):AW w w.heap.size:=⟨rfl⟩
instance (priority:=800) HO.ofBytes (w:World) (g:Nat) (e:TypeId) (xs:List UInt8) [h:HB w g e (Aw xs)] [m:MG (xs.length≤maxLen)]:HO w e 1 (some ⟨g,0,none⟩) xs.length xs.length (bs xs):=
 ⟨Cm.of_blk h.out (Nat.le_refl _) m.out (by rw[Dk,Nat.mul_one]) (by rw[Nat.mul_one];show(bs xs).take xs.length=bs xs;rw[←Am,List.take_length])⟩
section
variable {P:Program} {ops:Array Oper} {rest:List Oper} {a:Act} {w:World} {Q:Exit→Act→World→Prop} {dst:Option Tmp} {ty:TypeId} {pos:String} {after:Array Edge}
theorem Qp {t:TypeId} {x ix:Operand} {A:Option Addr} {n c:Nat} {i:Int} (hx:a.eval x= .slice A n c) (hi:a.eval ix= .int .i64 i) {e:TypeId} {size bytes:Nat} {z:Value} (E:Bm P t e size bytes z) (h0:0≤i) (h1:i<n)
    {vs:List Value} (hr:HR w A vs) (hl:0<vs.length)
    (h:wpList P ops Q rest (a.put dst (AN A (i.toNat*size))) w):wpList P ops Q (⟨dst, .indexAddr t x ix,ty,pos,after,none⟩::rest) a w:=
 Av rfl (by
  obtain⟨ad,hA,_⟩:=hr.out.lt hl;obtain⟨ti,hti,hz,hs,hb⟩:=info_parts E.out.info;show((Instr.indexAt t (a.eval x) (a.eval ix))>>=fun v=>pure (Next.value v)).run P w=_;rw[hx,hi,hA];simp[Instr.indexAt,asIntOf,run_underlying E.out.under,sizeOf,typeInfo,hti,hs,h0,h1,AN,DD]) h
theorem CU {t:TypeId} {A:Option Addr} {k:Nat} {vs cs:List Value} (hr:Rd w A vs) {n:Nat} (ht:Cl P t n) (hn:cs.length=n) (hc:(vs.drop k).take n=cs) (hp:0<n):
    (Instr.loadAt t (AN A k)).run P w= .ok (.agg cs.toArray) w:=by
 have hlen:k<vs.length:=by
  have:=congrArg List.length hc;rw[List.length_take,List.length_drop,hn] at this;omega
 obtain⟨ad,rfl,_⟩:=hr.lt (by omega);obtain⟨d,hd1,hd2⟩:=ht.row;have hl:(loadCells (ad.add k) cs.length).run P w= .ok cs.toArray w:=
  run_loadCells_list (P:=P) w (ad.add k) cs (fun j v hv=>by
   obtain⟨ad',e,h⟩:=hr (k+j) v (by
    rw[←hc,List.getElem?_take] at hv;split at hv
    ·rwa[List.getElem?_drop] at hv
    cases hv)
   injection e with e
   subst e;rw[Is];exact h)
 have hsz:=ht.size;cases hq:P.info? t with
 |none=>rw[hq] at hsz;simp at hsz
 |some i=>
  have hs:i.size=cs.length:=by rw[hq] at hsz;simp at hsz;omega
  have hagg:(isAgg t).run P w= .ok true w:=by
   unfold isAgg;rw[Sem.run_bind,run_underlying hd1 w];cases d<;>simp_all
  simp only[AN,Dp,Instr.loadAt,Instr.sureAddr,Sem.run_bind,Sem.run_pure,Result.andThen_ok];simp[loadVar,Sem.run_bind,hagg,sizeOf,typeInfo,hq,hs,hl]
theorem Rr {t:TypeId} {x:Operand} {A:Option Addr} {k:Nat} (hx:a.eval x=AN A (k*32)) {l:List Ak} (hr:HR w A (cellsOf l)) (ht:Cl P t 32) (hk:k<l.length)
    (h:wpList P ops Q rest (a.put dst (.agg (Aw (AG l k).l))) w):wpList P ops Q (⟨dst, .load t x,ty,pos,after,none⟩::rest) a w:=
 Av rfl (by
  show((Instr.loadAt t (a.eval x))>>=fun v=>pure (Next.value v)).run P w=_;rw[hx,Sem.run_bind,CU (k:=k*32) (cs:=bs (AG l k).l) hr.out ht (by rw[Am,(AG l k).len]) (Da l k hk) (by decide)];rfl) h
theorem Vn {t:TypeId} {x ix:Operand} {A:Option Addr} {n c k:Nat} (hx:a.eval x= .slice A n c) (hi:a.eval ix= .int .i64 (k:Int)) {e:TypeId} {bytes:Nat} {z:Value} (E:Bm P t e 32 bytes z)
    {l:List Ak} (hr:HR w A (cellsOf l)) (hl:l.length=n) (h1:k<n) (_:k<l.length)
    (h:wpList P ops Q rest (a.put dst (AN A (k*32))) w):wpList P ops Q (⟨dst, .indexAddr t x ix,ty,pos,after,none⟩::rest) a w:=
 Qp hx hi E (by omega) (by omega) hr (by rw[AB];show 0<l.length*32;omega) (by simpa using h)
theorem Tc {t:TypeId} {x ix:Operand} {A:Option Addr} {n c:Nat} {i:Int} (hx:a.eval x= .slice A n c) (hi:a.eval ix= .int .i64 i) {e:TypeId} {bytes:Nat} {z:Value} (E:Bm P t e 32 bytes z)
    {l:List Ak} (hr:HR w A (cellsOf l)) (hl:l.length=n) (h0:0≤i) (h1:i<n)
    (h:wpList P ops Q rest (a.put dst (AN A (i.toNat*32))) w):wpList P ops Q (⟨dst, .indexAddr t x ix,ty,pos,after,none⟩::rest) a w:=
 Qp hx hi E (by omega) (by omega) hr (by rw[AB];show 0<l.length*32;omega) h
theorem Pz {t e:TypeId} {x:Operand} {A:Option Addr} {k:Nat} (hx:a.eval x=AN A k) (hu:P.underlying t=some (.array 32 e)) (hs:(P.info? e).map (·.size)=some 1) {vs:List Value} (hr:HR w A vs) (hl:0<vs.length)
    (h:wpList P ops Q rest (a.put dst (.slice (DD A k) 32 32)) w):wpList P ops Q (⟨dst, .slice t x none none none,ty,pos,after,none⟩::rest) a w:=
 Av rfl (by
  obtain⟨ad,hA,_⟩:=hr.out.lt hl;show((Instr.sliceAt t (a.eval x) none none none)>>=fun v=>pure (Next.value v)).run P w=_;rw[hx,hA];cases hq:P.info? e with
  |none=>rw[hq] at hs;simp at hs
  |some i=>simp[Instr.sliceAt,run_underlying hu,AN,DD,Instr.sureAddr,Instr.sliceBounds,sizeOf,typeInfo,hq,Be]) h
theorem NR {t e:TypeId} {x:Operand} {A:Option Addr} {k:Nat} (hx:a.eval x=AN A (k*32)) (hu:P.underlying t=some (.array 32 e)) (hs:(P.info? e).map (·.size)=some 1) {l:List Ak} (hr:HR w A (cellsOf l)) (hl:k<l.length)
    (h:wpList P ops Q rest (a.put dst (.slice (DD A (k*32)) 32 32)) w):wpList P ops Q (⟨dst, .slice t x none none none,ty,pos,after,none⟩::rest) a w:=
 Pz hx hu hs hr (by rw[AB];show 0<l.length*32;omega) h
theorem CP {e:TypeId} {size n c:Nat} {A:Option Addr} {xs:List Value} (ho:Cm w e size A n c xs) {k m:Nat} {cs:List Value} (hm:cs.length=m) (hk:k+m≤xs.length) (hm0:0<m):
    ∃g,A=some ⟨g,0,none⟩∧w.there g k m∧Cm (w.setCells g k cs) e size A n c (xs.take k++cs++xs.drop (k+m))∧Au (An A) w (w.setCells g k cs):=by
 rcases ho.form with⟨_,rfl,rfl,rfl⟩|⟨g,cur,rfl,hb,h3,h4,h5,h6⟩
 ·simp at hk;omega
 have hlx:=ho.len;have hcur:k+m≤cur.size:=by
  have:=congrArg List.length h6;rw[List.length_take,Array.length_toList] at this;omega
 have key: ∀(cs:List Value) (k:Nat) (w:World) (cur:Array Value),AT w g e cur→k+cs.length≤cur.size→
     AT (w.setCells g k cs) g e (cur.toList.take k++cs++cur.toList.drop (k+cs.length)).toArray ∧Au (only g) w (w.setCells g k cs):=by
  intro cs
  induction cs with
  |nil=>
   intro k w cur hb _;refine⟨?_,Au.refl _ _⟩;simpa[World.setCells] using hb
  |cons v cs ih=>
   intro k w cur hb hk;simp only[List.length_cons] at hk;obtain⟨i1,i2⟩:=ih (k+1) (w.setCell ⟨g,k,none⟩ v) (cur.setIfInBounds k v) (hb.set_ k v) (by simpa using(by omega));refine⟨?_,((Au.refl (only g) w).setCell (p:=⟨g,k,none⟩) (fun _=>rfl) v).trans i2 (fun _ _ h=>h)⟩;rw[World.setCells];have e1:(cur.setIfInBounds k v).toList =cur.toList.set k v:=by simp
   rw[e1] at i1;have e2:(cur.toList.set k v).take (k+1)++cs++(cur.toList.set k v).drop (k+1+cs.length)=cur.toList.take k++(v::cs)++cur.toList.drop (k+(cs.length+1)):=by
    have hkl:k<cur.toList.length:=by simp;omega
    rw[List.set_eq_take_append_cons_drop,if_pos hkl];have h1:(cur.toList.take k++[v]).length =k+1:=by rw[List.length_append,List.length_take];simp;omega
    have h2:cur.toList.take k++v::cur.toList.drop (k+1)=(cur.toList.take k++[v])++cur.toList.drop (k+1):=by simp
    rw[h2,List.take_left' h1,←List.drop_drop,List.drop_left' h1,List.drop_drop,show k+1+cs.length=k+(cs.length+1) by omega];simp
   rw[e2] at i1;exact i1
 obtain⟨i1,i2⟩:=key cs k w cur hb (by omega);refine⟨g,rfl,fun j hj=>⟨?_,hb.frozen _⟩, ?_,⟨i2.os,i2.tape,i2.output,i2.size,fun x hx hn=>i2.block x hx (fun e=>hn ⟨_,rfl,e.symm⟩)⟩⟩
 ·rw[hb.cell];simp;omega
 refine Cm.of_blk i1 h3 h4 (by simp;omega) ?_;have hxl:xs.length≤cur.size:=by rw[←h6,List.length_take,Array.length_toList];omega
 have hcd:cur.toList=xs++cur.toList.drop (n*size):=by rw[←h6,List.take_append_drop]
 have h7:(cur.toList.take k)=xs.take k:=by rw[hcd,List.take_append_of_le_length (by omega)]
 rw[h7,hm];have h8:cur.toList.drop (k+m)=xs.drop (k+m)++cur.toList.drop (n*size):=by
  conv=>lhs;rw[hcd]
  rw[List.drop_append_of_le_length (by omega)]
 rw[h8,←List.append_assoc,List.take_left'];simp;omega
theorem PA {t:TypeId} {x y:Operand} {A:Option Addr} {k:Nat} {hh:Ak} (hx:a.eval x=AN A (k*32)) (hy:a.eval y= .agg (Aw hh.l)) {e:TypeId} {size n c:Nat} {l:List Ak} (ho:HO w e size A n c (cellsOf l)) (ht:Cl P t 32) (hk:k<l.length)
    (h: ∀w',Ag (An A) w w'→HO w' e size A n c (cellsOf (l.set k hh))→wpList P ops Q rest (a.put dst undef) w'):wpList P ops Q (⟨dst, .store t x y,ty,pos,after,none⟩::rest) a w:=by
 have hlen:(cellsOf l).length =l.length*32:=AB l;have hk32:k*32+32≤(cellsOf l).length :=by rw[hlen];omega
 obtain⟨g,hA,h1,h2,h3⟩:=CP ho.out (k:=k*32) (cs:=bs hh.l) (m:=32) (by rw[Am,hh.len]) hk32 (by decide);refine Ep rfl (w':=w.setCells g (k*32) (bs hh.l)) ?_ (h _ ⟨h3⟩ ⟨?_⟩)
 ·show((Instr.storeAt t (a.eval x) (a.eval y))>>=fun _=>pure Next.skip).run P w=_;have hz:(Aw hh.l).size =32:=hh.size;rw[hx,hy,Sem.run_bind,hA,AN,Dp,Addr.add_mid,Nat.zero_add,run_storeAt_mid (P:=P) w g (k*32) t (Aw hh.l) (by rw[hz];exact h1) (by rw[hz];exact ht.size) (Ek _)];rfl
 have e1:=FM l k hh hk;rw[←e1];exact h2
theorem GY {s x:Operand} {t e:TypeId} {z:Value} {A:Option Addr} {n c:Nat} (hs:a.eval s= .slice A n c) {A2:Option Addr} {m c2:Nat} (hx:a.eval x= .slice A2 m c2) (E:Bm P t e 1 1 z) {xs:List UInt8} (ho:HO w e 1 A n c (bs xs))
    {ys:List UInt8} (hr:HR w A2 (bs ys)) (hl:ys.length=m) (hlim:n+m≤100000000000)
    (h: ∀A' c' w',Ag (An A) w w'→HO w' e 1 A' (n+m) c' (bs (xs++ys))→Mc w A A'→n+m≤c'→wpList P ops Q rest (a.put dst (.slice A' (n+m) c')) w'):
    wpList P ops Q (⟨dst, .call {callee:= .builtin .append,args:=#[s,x],argTypes:=#[t,t]},ty,pos,after,none⟩::rest) a w:=
 Dj rfl s x E.out rfl hs ho.out hx hr.out (by rw[Am,hl,Nat.mul_one]) (Ei _) (by unfold maxLen;omega) (by omega) (fun e=>by
     subst e;rcases ys with _|⟨y,ys⟩
     ·simpa using hl.symm
     obtain⟨ad,h,_⟩:=hr.out 0 _ rfl;cases h) fun A' c' w' g1 g2 g3=>by
  rw[EW] at g1;refine h A' c' w' ⟨g2⟩ ⟨g1⟩ ⟨g3⟩ ?_;rcases g1.form with⟨_,h1,h2,_⟩|⟨_,_,_,_,h1,_⟩<;>omega
theorem FN {s x:Operand} {t e:TypeId} {z:Value} {A:Option Addr} {n c:Nat} (hs:a.eval s= .slice A n c) {A2:Option Addr} {c2:Nat} (hx:a.eval x= .slice A2 1 c2) (E:Bm P t e 32 32 z) {l:List Ak} (ho:HO w e 32 A n c (cellsOf l))
    {hh:Ak} (hr:HR w A2 (bs hh.l)) (hlim:n+1≤1000000000)
    (h: ∀A' c' w',Ag (An A) w w'→HO w' e 32 A' (n+1) c' (cellsOf (l++[hh]))→Mc w A A'→n+1≤c'→wpList P ops Q rest (a.put dst (.slice A' (n+1) c')) w'):
    wpList P ops Q (⟨dst, .call {callee:= .builtin .append,args:=#[s,x],argTypes:=#[t,t]},ty,pos,after,none⟩::rest) a w:=
 Dj rfl s x E.out rfl hs ho.out hx hr.out (by rw[Am,hh.len]) (Ei _) (by unfold maxLen;omega) (by omega) (fun e=>by
     subst e;have h5:=hh.len;rcases h6:hh.l with _|⟨y,ys⟩
     ·rw[h6] at h5;simp at h5
     obtain⟨ad,h,_⟩:=hr.out 0 (GV y) (by rw[h6];rfl);cases h) fun A' c' w' g1 g2 g3=>by
  have g1':Cm w' e 32 A' (n+1) c' (cellsOf (l++[hh])):=by rw[Rq];exact g1
  refine h A' c' w' ⟨g2⟩ ⟨g1'⟩ ⟨g3⟩ ?_;rcases g1.form with⟨_,h1,h2,_⟩|⟨_,_,_,_,h1,_⟩<;>omega
theorem Iw {t:TypeId} {len:Nat} {ps:List (Nat×Operand)} {cs:Array Value} {e:TypeId} (hr:(Instr.buildSlice t len (ps.map fun(i,x)=>(i,a.eval x)).toArray).run P w= .ok (.slice (some ⟨w.heap.size,0,none⟩) len len) (w.alloc (.cells cs e)))
    (h: ∀g w',AW w g→Ag Ab w w'→HB w' g e cs→wpList P ops Q rest (a.put dst (.slice (some ⟨g,0,none⟩) len len)) w'):wpList P ops Q (⟨dst, .buildSlice t len ps.toArray,ty,pos,after,none⟩::rest) a w:=
 Av rfl (by
  show((Instr.buildSlice t len (ps.toArray.map fun(i,x)=>(i,a.eval x)))>>=fun v=>pure (Next.value v)).run P w=_;rw[Sem.run_bind,List.map_toArray,hr];rfl) (h _ _ ⟨rfl⟩ inferInstance ⟨AT.new w e cs⟩)
theorem Lh {t e:TypeId} {x y:Operand} {n:Nat} (hx:a.eval x= .int .i64 (n:Int)) (hy:a.eval y= .int .i64 (n:Int)) (E:Bm P t e 32 32 (.agg (Aw Aq.l))) (hn:n≤100000)
    (h: ∀g w',AW w g→Ag Ab w w'→HO w' e 32 (some ⟨g,0,none⟩) n n (cellsOf (List.replicate n Aq))→wpList P ops Q rest (a.put dst (.slice (some ⟨g,0,none⟩) n n)) w'):
    wpList P ops Q (⟨dst, .makeSlice t x y,ty,pos,after,none⟩::rest) a w:=by
 obtain⟨i,hi,hz,hs,hb⟩:=info_parts E.out.info;obtain⟨w',h1,h2,h3⟩:=run_makeSlice_full (P:=P) (w:=w) 0 t e i _ 32 E.out.under hi hz hs .i64 .i64 n (by omega) (by rw[hb];omega) (by unfold maxLen;omega) (Nat.zero_le _);refine Av rfl (w':=w') (v:= .slice (some ⟨w.heap.size,0,none⟩) n n) ?_ (h _ w' ⟨rfl⟩ ⟨(Au.of_grown h3).mono (fun _ _ h=>by cases h)⟩ ⟨?_⟩)
 ·show((Instr.makeSlice t (a.eval x) (a.eval y))>>=fun v=>pure (Next.value v)).run P w=_;rw[hx,hy,Sem.run_bind,h1];rfl
 have e1:(madeCells (Value.agg (Aw Aq.l)).cells (n*32)).toList =cellsOf (List.replicate n Aq):=by
   have h5: ∀v∈(madeCells (Value.agg (Aw Aq.l)).cells (n*32)).toList,v= .int .u8 0:=by
    intro v hv;have h9:(Value.agg (Aw Aq.l)).cells.size =32:=by decide
    have h8: ∀j,j<32→(Value.agg (Aw Aq.l)).cells[j]! = .int .u8 0:=fun j hj=>by
     rw[getElem!_pos _ j (by rw[h9];exact hj)];have h10: ∀u∈(Aw Aq.l).toList,u= .int .u8 0:=fun u hu=>List.eq_of_mem_replicate (n:=32) hu
     exact h10 _ (by simp[Value.cells])
    simp only[madeCells,Array.toList_map,List.mem_map] at hv;obtain⟨j,_,rfl⟩:=hv;rw[h9];exact h8 _ (Nat.mod_lt _ (by decide))
   have h6: ∀v∈cellsOf (List.replicate n Aq),v= .int .u8 0:=by
    intro v hv;obtain⟨b,hb1,hb2⟩:=List.mem_flatMap.1 hv;obtain rfl:=List.eq_of_mem_replicate hb1;exact List.eq_of_mem_replicate (n:=32) hb2
   have h7:(cellsOf (List.replicate n Aq)).length =n*32:=by rw[AB,List.length_replicate];rfl
   rw[List.eq_replicate_iff.2 ⟨h7,h6⟩];exact List.eq_replicate_iff.2 ⟨by rw[Array.length_toList,size_madeCells],h5⟩
 rw[←e1];exact h2
end
end Go.Proofs.YtjjhceeookpieaaGreat
end
section
open Go Go.RowKit
namespace Go.Proofs.YtjjhceeookpieaaGreat
theorem sA {α:Type} {xs:List α} {i:Nat} {a:α}:xs.toArray.setIfInBounds i a=(xs.set i a).toArray :=List.setIfInBounds_toArray xs i a
theorem sB {α:Type} {x:α} {xs:List α} {i:Nat} {a:α}:(x::xs).set (i+1) a=x::xs.set i a:=rfl
theorem sC {α:Type} {x:α} {xs:List α} {a:α}:(x::xs).set 0 a=a::xs:=rfl
class Ns (T:outParam (Nat→Prop)) (wd:outParam World) (w:World):Prop where
 out:Au T wd w
class KE (w:World) (S T:Nat→Prop):Prop where
 out: ∀k,k<w.heap.size→S k→T k
instance (w:World) (T:Nat→Prop):KE w Ab T:=⟨fun _ _ h=>h.elim⟩
instance (w:World) (T:Nat→Prop):KE w T T:=⟨fun _ _ h=>h⟩
instance (priority:=800) KE.above (w:World) (S T:Nat→Prop) [a:Cn w S]:KE w S T:=⟨fun k hk hs=>by have:=a.out k hs;omega⟩
instance (priority:=500) Ag.held (T:Nat→Prop) (wd w:World) [h:Ns T wd w]:Ag T wd w:=⟨h.out⟩
instance Ns.snoc (S T:Nat→Prop) (wd w w':World) [s:Ag S w w'] [h:Ns T wd w] [u:KE wd S T]:Ns T wd w':=⟨h.out.trans s.chg u.out⟩
theorem Qq (T:Nat→Prop) (w:World):Ns T w w:=⟨Au.refl _ _⟩
section
variable {P:Program} {ops:Array Oper} {Q:Exit→Act→World→Prop} {a:Act} {w:World}
theorem Ah {id:Nat} (T:Nat→Prop) (hm:P.follows .mixedOrders =true)
    (h: ∀wd,Ag Ab w wd→Ns T wd wd→wpAnyH P .any ops Q (Ns T wd) ops.size (Array.replicate ops.size false) a wd):(Code.region id ops true).wp P Q a w:=
 wp_region_held_drew (S:=Ns T w.drew) hm (Qq T _) (fun _=>h _ inferInstance (Qq T _))
def Td (K:Act→World→Prop):Exit→Act→World→Prop
 | .normal,a,w=>K a w
 |_,_,_=>False
theorem Oper.wp_monoQ {o:Oper} {K:Act→World→Prop} {Q Q':Exit→Act→World→Prop} (hQ: ∀e a w,e≠ .normal →Q e a w→Q' e a w) (h:o.wp P a w K Q):o.wp P a w K Q':=by
 unfold Oper.wp at*;generalize(execOp a.eval o).run P w=r at*;cases r with
 |ok n w'=>
  cases n<;>simp only[Oper.upon] at h⊢<;>
   first
    |exact h
    |exact Calls.mono h (fun e w'' he=>by
        cases e with
        |returned v=>exact he
        |panicked c=>exact hQ _ _ _ (by intro h;cases h) he
        |outgrown=>exact he.elim fun a he=>he.elim fun w he=>⟨a,w,hQ _ _ _ (by intro h;cases h) he⟩)
    |exact Rows.mono h (fun _ _ he=>he)
 |halt x w'=>cases x<;>simp only[Oper.upon] at h⊢<;>first|exact hQ _ _ _ (by intro h;cases h) h|exact h
theorem MK {dst:Option Tmp} {op:Op} {ty:TypeId} {pos:String} {after:Array Edge} {g:Option (Nat×Bool)} {K:Act→World→Prop}
    (h:wpList P #[] (Td K) [⟨dst,op,ty,pos,after,none⟩] a w):Oper.wp P ⟨dst,op,ty,pos,after,g⟩ a w K Q:=by
 unfold wpList at h;rw[if_pos (by simp[Region.wanted])] at h;rcases h with h|⟨_,a',w',h⟩
 ·exact Oper.wp_monoQ (Q:=Td K) (fun e a w hne h=>by cases e<;>first|exact absurd rfl hne|exact(h:False).elim) h
 exact h.elim
def Eg {α:Type}:List α→Nat→Option α
 |[],_=>none
 |x::_,0=>some x
 |_::l,n+1=>Eg l n
theorem Bp {α:Type}: ∀(l:List α) (i:Nat),l[i]? =Eg l i
 |[],_=>by simp[Eg]
 |x::l,0=>rfl
 |x::l,n+1=>by rw[List.getElem?_cons_succ,Bp l n];rfl
theorem Jk {md:Region.Mode} {S:World→Prop} {l:List Oper} {i:Nat} {oi:Oper} {v:Value} {fuel:Nat} {listed:Array Bool} (hi:Eg l i=some oi)
    (hs:Region.noSelect l.toArray=true) (hf:Region.free md l.toArray listed i=true) (hr:(Region.ready md l.toArray listed).contains i=true)
    (hQ: ∀c a w,Q (.panic c) (a.put oi.dst v) w→Q (.panic c) a w) (hy:YieldsIf P l.toArray S oi v a) (hS:S w)
    (h:wpAnyH P md l.toArray Q S fuel (listed.setIfInBounds i true) (a.put oi.dst v) w):wpAnyH P md l.toArray Q S (fuel+1) listed a w:=
 wpAnyH_take (by rw[List.getElem?_toArray,Bp,hi]) hs hf hr hQ hy hS h
theorem goH {md:Region.Mode} {S:World→Prop} {l:List Oper} {fuel:Nat} {listed:Array Bool} {i:Nat} {o:Oper} (hr:Region.ready md l.toArray listed=[i]) (ho:Eg l i=some o)
    (h: ∀K':Act→World→Prop,Shut (∀a w,S w→(S w→wpAnyH P md l.toArray Q S fuel (listed.setIfInBounds i true) a w)→K' a w)→if Region.wanted o (yielded l.toArray a.tmps)=true then Oper.wp P o a w K' Q else K' (a.put o.dst undef) w):
    wpAnyH P md l.toArray Q S (fuel+1) listed a w:=
 wpAnyH_ready hr (by simp) (AllReadyH.cons (by rw[List.getElem?_toArray,Bp,ho]) h AllReadyH.nil)
theorem tk {md:Region.Mode} {S:World→Prop} {l:List Oper} {oi:Oper} {fuel:Nat} {listed:Array Bool} (i:Nat) (v:Value) (hi:Eg l i=some oi) (hs:Region.noSelect l.toArray=true) (hf:Region.free md l.toArray listed i=true) (hr:(Region.ready md l.toArray listed).contains i=true) (hQ: ∀c a w,Q (.panic c) (a.put oi.dst v) w→Q (.panic c) a w) (hy:YieldsIf P l.toArray S oi v a) (hS:S w) (h:wpAnyH P md l.toArray Q S fuel (listed.setIfInBounds i true) (a.put oi.dst v) w):wpAnyH P md l.toArray Q S (fuel+1) listed a w:=
 Jk hi hs hf hr hQ hy hS h
theorem XI {T:Nat→Prop} {wd:World} {o:Oper} {v:Value} (hw:Region.wanted o (yielded ops a.tmps)=true) (h: ∀w,Ns T wd w→(execOp a.eval o).run P w= .ok (.value v) w):YieldsIf P ops (Ns T wd) o v a:= .inl ⟨hw,h⟩
theorem yo {T:Nat→Prop} {wd:World} {o:Oper} {v:Value} (hw:Region.wanted o (yielded ops a.tmps)=true) (h: ∀w,Ns T wd w→(execOp a.eval o).run P w= .ok (.value v) w):YieldsIf P ops (Ns T wd) o v a:=XI hw h
section
variable {dst:Option Tmp} {ty:TypeId} {pos:String} {after:Array Edge} {gd:Option (Nat×Bool)}
theorem Ix {t:TypeId} {x:Operand} {g:Nat} (hx:a.eval x= .pointer (some ⟨g,0,none⟩)) {tb:TypeId} {cs:Array Value} (hb:HB w g tb cs) {n:Nat} (hr:Cl P t n) (hn:cs.size=n):
    (execOp a.eval ⟨dst, .load t x,ty,pos,after,gd⟩).run P w= .ok (.value (.agg cs)) w:=by
 obtain⟨d,hd1,hd2⟩:=hr.row;show((Instr.loadAt t (a.eval x))>>=fun v=>pure (Next.value v)).run P w=_;rw[hx];simp only[Instr.loadAt,Instr.sureAddr,Sem.run_bind,Sem.run_pure,Result.andThen_ok,run_loadVar_row w g tb t cs (0,0) d hb.out hd1 (by cases d<;>first|rfl|cases hd2) (by rw[hn];exact hr.size)]
theorem ML {t:TypeId} {x:Operand} {g k:Nat} (hx:a.eval x= .pointer (some ⟨g,k,none⟩)) {tb:TypeId} {cs:Array Value} (hb:HB w g tb cs) (ht:AL P t) {v:Value} (hv:cs[k]? =some v):
    (execOp a.eval ⟨dst, .load t x,ty,pos,after,gd⟩).run P w= .ok (.value v) w:=by
 have hc:w.cell? ⟨g,k,none⟩=some v:=(hb.out.cell k).trans hv;show((Instr.loadAt t (a.eval x))>>=fun v=>pure (Next.value v)).run P w=_;rw[hx];simp[Instr.loadAt,Instr.sureAddr,loadVar,ht.agg w,hc]
theorem Vo {t:TypeId} {x:Operand} {g k:Nat} (hx:a.eval x= .pointer (some ⟨g,k,none⟩)) {tb:TypeId} {l:List Int} (hb:HB w g tb (Df l)) (ht:AL P t) (hk:k<l.length):
    (execOp a.eval ⟨dst, .load t x,ty,pos,after,gd⟩).run P w= .ok (.value (.int .i64 (Ej l k))) w:=ML hx hb ht (Ta l k hk)
theorem XJ {t:TypeId} {x ix:Operand} {A:Option Addr} {n c k:Nat} (hx:a.eval x= .slice A n c) (hi:a.eval ix= .int .i64 (k:Int)) {e:TypeId} {bytes:Nat} {z:Value} (E:Bm P t e 32 bytes z)
    {l:List Ak} (hr:HR w A (cellsOf l)) (hl:l.length=n) (h1:k<n):
    (execOp a.eval ⟨dst, .indexAddr t x ix,ty,pos,after,gd⟩).run P w= .ok (.value (AN A (k*32))) w:=by
 obtain⟨ad,hA,_⟩:=hr.out.lt (by rw[AB];show 0<l.length*32;omega);obtain⟨ti,hti,hz,hs,hb⟩:=info_parts E.out.info;show((Instr.indexAt t (a.eval x) (a.eval ix))>>=fun v=>pure (Next.value v)).run P w=_;rw[hx,hi,hA];simp[Instr.indexAt,asIntOf,run_underlying E.out.under,sizeOf,typeInfo,hti,hs,h1,AN,DD]
theorem Te {t:TypeId} {x:Operand} {A:Option Addr} {k:Nat} (hx:a.eval x=AN A (k*32)) {l:List Ak} (hr:HR w A (cellsOf l)) (ht:Cl P t 32) (hk:k<l.length):
    (execOp a.eval ⟨dst, .load t x,ty,pos,after,gd⟩).run P w= .ok (.value (.agg (Aw (AG l k).l))) w:=by
 show((Instr.loadAt t (a.eval x))>>=fun v=>pure (Next.value v)).run P w=_;rw[hx,Sem.run_bind,CU (k:=k*32) (cs:=bs (AG l k).l) hr.out ht (by rw[Am,(AG l k).len]) (Da l k hk) (by decide)];rfl
end
end
end Go.Proofs.YtjjhceeookpieaaGreat
end
section
open Go Go.RowKit
namespace Go.Proofs.YtjjhceeookpieaaGreat
theorem Tf (off:Nat): ∀(l:List Value) (k:Nat) (z:Array Value),off+k+l.length≤z.size→
    ((l.zipIdx k).foldl (fun cs (x:Value×Nat)=>cs.setIfInBounds (off+x.2) x.1) z).toList =z.toList.take (off+k)++l++z.toList.drop (off+k+l.length)
 |[],k,z,_=>by simp
 |v::l,k,z,h=>by
  simp only[List.length_cons] at h;rw[List.zipIdx_cons,List.foldl_cons,Tf off l (k+1) _ (by simp only[Array.size_setIfInBounds];omega)];have e1:(z.setIfInBounds (off+k) v).toList =z.toList.set (off+k) v:=by simp
  have hkl:off+k<z.toList.length:=by rw[Array.length_toList];omega
  have h1:(z.toList.take (off+k)++[v]).length =off+k+1:=by rw[List.length_append,List.length_take];simp;omega
  have h2:z.toList.take (off+k)++v::z.toList.drop (off+k+1)=(z.toList.take (off+k)++[v])++z.toList.drop (off+k+1):=by simp
  rw[e1,List.set_eq_take_append_cons_drop,if_pos hkl,h2,show off+(k+1)=off+k+1 by omega,List.take_left' h1,←List.drop_drop,List.drop_left' h1,List.drop_drop,
   show off+k+1+l.length=off+k+(v::l).length by simp;omega]
  simp
def GH (off:Nat) (cs z:Array Value):Array Value:=(z.toList.take off++cs.toList++z.toList.drop (off+cs.size)).toArray
theorem AZ (place:Nat→Option (Nat×Nat)) (z:Array Value) (i:Nat) (v:Value) (rest:List (Nat×Value)) {off size:Nat} (hp:place i=some (off,size)) (hs:v.cells.size=size) (hf:off+size≤z.size):
    Instr.fill place z ((i,v)::rest)=Instr.fill place (GH off v.cells z) rest:=by
 rw[Instr.fill,hp];simp only[];rw[if_neg (by simp[hs];omega)]
 congr 1
 apply Array.ext';rw[GH,←Array.foldl_toList,Array.toList_zipIdx];have h:=Tf off v.cells.toList 0 z (by simp;omega);simp only[Nat.add_zero,Array.length_toList] at h;exact h
theorem JN (cs z:Array Value) (h:cs.size=z.size):GH 0 cs z=cs:=by
 apply Array.ext';rw[GH,h];simp
theorem Cu {P:Program} {t:TypeId} {fields:Array Field} (hu:P.underlying t=some (.struct fields)) {zv:Value} (hz: ∀w,(zeroValue t).run P w= .ok zv w) {places:Array (Nat×Nat)}
    (hp: ∀w,(fields.mapM fun f=>do pure (f.offset,←sizeOf f.type):Sem (Array (Nat×Nat))).run P w= .ok places w) {parts:Array (Nat×Value)} {cells:Array Value} (hf:Instr.fill (places[·]?) zv.cells parts.toList=some cells) (w:World):
    (Instr.build t parts).run P w= .ok (.agg cells) w:=by
 unfold Instr.build;simp only[Sem.run_bind,hz,Result.andThen_ok,run_underlying hu,hp,hf,Sem.run_pure]
theorem XK (n i:Nat):Ej (List.replicate n 0) i=0:=by
 unfold Ej;rw[List.getD_eq_getElem?_getD,List.getElem?_replicate];split<;>rfl
end Go.Proofs.YtjjhceeookpieaaGreat
end
section
open Go Go.RowKit
namespace Go.Proofs.YtjjhceeookpieaaGreat
def Gs (A:Option Addr) (k c s:Nat):Option Addr:=if c=k then A else DD A (k*s)
theorem HR.takeR {α:Type} [Af α] {w:World} {A:Option Addr} {l:List α} (h:HR w A (cellsOf l)) (k:Nat):HR w A (cellsOf (l.take k)):=⟨by
 have:=h.out.take (k*Af.size α);rwa[EF] at this⟩
theorem HR.cutR {α:Type} [Af α] {w:World} {A:Option Addr} {l:List α} (h:HR w A (cellsOf l)) {n c:Nat} (hl:l.length=n) (hc:n≤c) (k s:Nat) (hs:Af.size α=s):HR w (Gs A k c s) (cellsOf (l.drop k)):=⟨by
 subst hs;unfold Gs;split
 ·rw[List.drop_eq_nil_of_le (by omega)];exact Rd.nil _ _
 have:=h.out.drop (k*Af.size α);rwa[Gr] at this⟩
section
variable {P:Program} {ops:Array Oper} {rest:List Oper} {a:Act} {w:World} {Q:Exit→Act→World→Prop} {dst:Option Tmp} {ty:TypeId} {pos:String} {after:Array Edge} {gd:Option (Nat×Bool)}
theorem ZO {t e:TypeId} {size bytes:Nat} {z:Value} (E:Bm P t e size bytes z) (A:Option Addr) (n c m:Nat) (hm:m≤c) (w:World):(Instr.sliceAt t (.slice A n c) none (some (.int .i64 (m:Int))) none).run P w= .ok (.slice A m c) w:=by
 obtain⟨ti,hti,hz,hs,hb⟩:=info_parts E.out.info;have e0:(if c=0 then A else Option.map (fun x=>x.add 0) A)=A:=by
  split
  ·rfl
  cases A<;>simp[Be]
 simp[Instr.sliceAt,Instr.slice,run_underlying E.out.under,Instr.sliceBounds,Instr.sliceBound,asIntOf,sizeOf,typeInfo,hti,hm,e0]
theorem ZP {t e:TypeId} {size bytes:Nat} {z:Value} (E:Bm P t e size bytes z) (A:Option Addr) (n c k:Nat) (hk:k≤n) (w:World):(Instr.sliceAt t (.slice A n c) (some (.int .i64 (k:Int))) none none).run P w= .ok (.slice (Gs A k c size) (n -k) (c -k)) w:=by
 obtain⟨ti,hti,hz,hs,hb⟩:=info_parts E.out.info;simp[Instr.sliceAt,Instr.slice,run_underlying E.out.under,Instr.sliceBounds,Instr.sliceBound,asIntOf,sizeOf,typeInfo,hti,hs,hk,Gs,DD]
theorem XL {t e:TypeId} {size bytes:Nat} {z:Value} (E:Bm P t e size bytes z) (A:Option Addr) (n c k m:Nat) (hk:k≤m) (hm:m≤c) (w:World):(Instr.sliceAt t (.slice A n c) (some (.int .i64 (k:Int))) (some (.int .i64 (m:Int))) none).run P w= .ok (.slice (Gs A k c size) (m -k) (c -k)) w:=by
 obtain⟨ti,hti,hz,hs,hb⟩:=info_parts E.out.info;simp[Instr.sliceAt,Instr.slice,run_underlying E.out.under,Instr.sliceBounds,Instr.sliceBound,asIntOf,sizeOf,typeInfo,hti,hs,hk,hm,Gs,DD]
theorem Rs {t e:TypeId} {size bytes:Nat} {z:Value} {x y:Operand} {A:Option Addr} {n c m:Nat} (hx:a.eval x= .slice A n c) (hy:a.eval y= .int .i64 (m:Int)) (E:Bm P t e size bytes z) (hm:m≤c):
    (execOp a.eval ⟨dst, .slice t x none (some y) none,ty,pos,after,gd⟩).run P w= .ok (.value (.slice A m c)) w:=by
 show((Instr.sliceAt t (a.eval x) none (some (a.eval y)) none)>>=fun v=>pure (Next.value v)).run P w=_;rw[hx,hy,Sem.run_bind,ZO E A n c m hm];rfl
theorem Rt {t e:TypeId} {size bytes:Nat} {z:Value} {x y:Operand} {A:Option Addr} {n c k:Nat} (hx:a.eval x= .slice A n c) (hy:a.eval y= .int .i64 (k:Int)) (E:Bm P t e size bytes z) (hk:k≤n):
    (execOp a.eval ⟨dst, .slice t x (some y) none none,ty,pos,after,gd⟩).run P w= .ok (.value (.slice (Gs A k c size) (n -k) (c -k))) w:=by
 show((Instr.sliceAt t (a.eval x) (some (a.eval y)) none none)>>=fun v=>pure (Next.value v)).run P w=_;rw[hx,hy,Sem.run_bind,ZP E A n c k hk];rfl
theorem ZQ {t e:TypeId} {size bytes:Nat} {z:Value} {x y y2:Operand} {A:Option Addr} {n c k m:Nat} (hx:a.eval x= .slice A n c) (hy:a.eval y= .int .i64 (k:Int)) (hy2:a.eval y2= .int .i64 (m:Int)) (E:Bm P t e size bytes z) (hk:k≤m) (hm:m≤c):
    (execOp a.eval ⟨dst, .slice t x (some y) (some y2) none,ty,pos,after,gd⟩).run P w= .ok (.value (.slice (Gs A k c size) (m -k) (c -k))) w:=by
 show((Instr.sliceAt t (a.eval x) (some (a.eval y)) (some (a.eval y2)) none)>>=fun v=>pure (Next.value v)).run P w=_;rw[hx,hy,hy2,Sem.run_bind,XL E A n c k m hk hm];rfl
theorem Jl {t:TypeId} {ps:List (Nat×Operand)} {cs:Array Value} (hr:(Instr.build t (ps.map fun(i,x)=>(i,a.eval x)).toArray).run P w= .ok (.agg cs) w):
    (execOp a.eval ⟨dst, .build t ps.toArray,ty,pos,after,gd⟩).run P w= .ok (.value (.agg cs)) w:=by
 show((Instr.build t (ps.toArray.map fun(i,x)=>(i,a.eval x)))>>=fun v=>pure (Next.value v)).run P w=_;rw[Sem.run_bind,List.map_toArray,hr];rfl
theorem Vp {t:TypeId} {x ix:Operand} {A:Option Addr} {n c:Nat} {i:Int} (hx:a.eval x= .slice A n c) (hi:a.eval ix= .int .i64 i) {e:TypeId} {bytes:Nat} {z:Value} (E:Bm P t e 32 bytes z)
    {l:List Ak} (hr:HR w A (cellsOf l)) (hl:l.length=n) (h0:0≤i) (h1:i<n):
    (execOp a.eval ⟨dst, .indexAddr t x ix,ty,pos,after,gd⟩).run P w= .ok (.value (AN A (i.toNat*32))) w:=by
 obtain⟨k,rfl⟩: ∃k:Nat,i=(k:Int):=⟨i.toNat,by omega⟩;exact XJ hx hi E hr hl (by omega)
theorem WP {cs:Array Value} {k:Nat} {v:Value} (h:Eg cs.toList k=some v):cs[k]? =some v:=by
 rw[←Bp] at h;simpa using h
theorem Ac {t:TypeId} {x:Operand} {g k:Nat} (hx:a.eval x= .pointer (some ⟨g,k,none⟩)) {tb:TypeId} {cs:Array Value} (hb:HB w g tb cs) [ht:AL P t] {v:Value} (hv:Eg cs.toList k=some v)
    (h:wpList P ops Q rest (a.put dst v) w):wpList P ops Q (⟨dst, .load t x,ty,pos,after,none⟩::rest) a w:=EE hx hb (WP hv) h
theorem Ai {t:TypeId} {x:Operand} {g k:Nat} (hx:a.eval x= .pointer (some ⟨g,k,none⟩)) {tb:TypeId} {cs:Array Value} (hb:HB w g tb cs) (ht:AL P t) {v:Value} (hv:Eg cs.toList k=some v):
    (execOp a.eval ⟨dst, .load t x,ty,pos,after,gd⟩).run P w= .ok (.value v) w:=ML hx hb ht (WP hv)
theorem NS {t e:TypeId} {size bytes:Nat} {z:Value} {x y:Operand} {A:Option Addr} {n c m:Nat} (hx:a.eval x= .slice A n c) (hy:a.eval y= .int .i64 (m:Int)) (E:Bm P t e size bytes z) (hm:m≤c)
    (h:wpList P ops Q rest (a.put dst (.slice A m c)) w):wpList P ops Q (⟨dst, .slice t x none (some y) none,ty,pos,after,none⟩::rest) a w:=
 Av rfl (Rs hx hy E hm) h
theorem Li {t e:TypeId} {size bytes:Nat} {z:Value} {x y:Operand} {A:Option Addr} {n c k:Nat} (hx:a.eval x= .slice A n c) (hy:a.eval y= .int .i64 (k:Int)) (E:Bm P t e size bytes z) (hk:k≤n)
    (h:wpList P ops Q rest (a.put dst (.slice (Gs A k c size) (n -k) (c -k))) w):wpList P ops Q (⟨dst, .slice t x (some y) none none,ty,pos,after,none⟩::rest) a w:=
 Av rfl (Rt hx hy E hk) h
theorem XM {t e:TypeId} {size bytes:Nat} {z:Value} {x y y2:Operand} {A:Option Addr} {n c k m:Nat} (hx:a.eval x= .slice A n c) (hy:a.eval y= .int .i64 (k:Int)) (hy2:a.eval y2= .int .i64 (m:Int)) (E:Bm P t e size bytes z) (hk:k≤m) (hm:m≤c)
    (h:wpList P ops Q rest (a.put dst (.slice (Gs A k c size) (m -k) (c -k))) w):wpList P ops Q (⟨dst, .slice t x (some y) (some y2) none,ty,pos,after,none⟩::rest) a w:=
 Av rfl (ZQ hx hy hy2 E hk hm) h
end
end Go.Proofs.YtjjhceeookpieaaGreat
end
section
open Go Go.RowKit
namespace Go.Proofs.YtjjhceeookpieaaGreat
instance (priority:=700) HO.ofEmptyH (w:World) (g:Nat) (e:TypeId) [h:HB w g e #[]]:HO w e 32 (some ⟨g,0,none⟩) 0 0 (cellsOf ([]:List Ak)):=
 ⟨Cm.of_blk h.out (Nat.le_refl _) (Nat.zero_le _) (by simp) (by simp[cellsOf])⟩
theorem Ib (a b:Int):0≤bits BinOp.xor IntKind.u8 a b∧bits BinOp.xor IntKind.u8 a b<256:=by
 have h: ∀x:Int,0≤IntKind.u8.wrap x∧IntKind.u8.wrap x<256:=fun x=>by rw[IntKind.wrap_u8];omega
 exact h _
def Afu (h:Ak) (j:Nat) (b:UInt8):Ak:=⟨h.l.set j b,by rw[List.length_set,h.len]⟩
section
variable {P:Program} {ops:Array Oper} {rest:List Oper} {a:Act} {w:World} {Q:Exit→Act→World→Prop} {dst:Option Tmp} {ty:TypeId} {pos:String} {after:Array Edge} {gd:Option (Nat×Bool)}
theorem Bb {α:Type} [Af α] {s x:Operand} {t e:TypeId} {size bytes:Nat} {z:Value} {A:Option Addr} {n c:Nat} (hs:a.eval s= .slice A n c) {A2:Option Addr} {m c2:Nat} (hx:a.eval x= .slice A2 m c2) (E:Bm P t e size bytes z)
    {l:List α} (ho:HO w e size A n c (cellsOf l)) {news:List α} (hr:HR w A2 (cellsOf news)) (hsz:size=Af.size α) (hl:news.length=m) (hlim:n+m≤1000000000) (hb:bytes≤100000) (h0:0<size)
    (h: ∀A' c' w',Ag (An A) w w'→HO w' e size A' (n+m) c' (cellsOf (l++news))→Mc w A A'→n+m≤c'→wpList P ops Q rest (a.put dst (.slice A' (n+m) c')) w'):
    wpList P ops Q (⟨dst, .call {callee:= .builtin .append,args:=#[s,x],argTypes:=#[t,t]},ty,pos,after,none⟩::rest) a w:=
 Dj rfl s x E.out rfl hs ho.out hx hr.out (by rw[AB,hl,hsz]) (GX _) (by unfold maxLen;omega)
  (Nat.le_trans (Nat.mul_le_mul hlim hb) (by decide)) (fun e=>by
   subst e;rcases Nat.eq_zero_or_pos m with h1|h1
   ·exact h1
   obtain⟨ad,h,_⟩:=hr.out.lt (by rw[AB,hl,←hsz];exact Nat.mul_pos h1 h0);cases h) fun A' c' w' g1 g2 g3=>by
  rw[←Er] at g1;refine h A' c' w' ⟨g2⟩ ⟨g1⟩ ⟨g3⟩ ?_;rcases g1.form with⟨_,h1,h2,_⟩|⟨_,_,_,_,h1,_⟩<;>omega
theorem Kl {t:TypeId} {x:Operand} {A:Option Addr} {k j:Nat} (hx:a.eval x=AN A (k*32+j)) {l:List Ak} (hr:HR w A (cellsOf l)) [ht:AL P t] (hk:k<l.length) (hj:j<32)
    (h:wpList P ops Q rest (a.put dst (.int .u8 ((Eo (AG l k).l j).toNat :Int))) w):wpList P ops Q (⟨dst, .load t x,ty,pos,after,none⟩::rest) a w:=by
 have hlen:=AB l;have h32:Af.size Ak=32:=rfl;have hat:=Da l k hk;rw[h32] at hat hlen;have hv:(cellsOf l)[k*32+j]? =some (.int .u8 ((Eo (AG l k).l j).toNat :Int)):=by
  have h1:(((cellsOf l).drop (k*32)).take 32)[j]? =(bs (AG l k).l)[j]? :=by rw[hat];rfl
  rw[List.getElem?_take,if_pos hj,List.getElem?_drop] at h1;rw[h1];have h2:j<(AG l k).l.length :=by rw[Ak.len];exact hj
  simp[bs,Eo,GV,List.getElem?_map,List.getD_eq_getElem?_getD,List.getElem?_eq_getElem h2]
 obtain⟨ad,rfl,hc⟩:=hr.out _ _ hv;exact Vm (ad:=ad.add (k*32+j)) (hx.trans rfl) hc h
theorem Es {t:TypeId} {x y:Operand} {A:Option Addr} {k j:Nat} {v:Int} (hx:a.eval x=AN A (k*32+j)) (hy:a.eval y= .int .u8 v) {e:TypeId} {n c:Nat} {l:List Ak} (ho:HO w e 32 A n c (cellsOf l)) [ht:AL P t] (hk:k<l.length) (hj:j<32) (hv:0≤v∧v<256)
    (h: ∀w',Ag (An A) w w'→HO w' e 32 A n c (cellsOf (l.set k (Afu (AG l k) j (b8 v))))→wpList P ops Q rest (a.put dst undef) w'):wpList P ops Q (⟨dst, .store t x y,ty,pos,after,none⟩::rest) a w:=by
 have hlen:(cellsOf l).length =l.length*32:=AB l;obtain⟨g,hA,h1,h2,h3⟩:=CP ho.out (k:=k*32+j) (cs:=[.int .u8 v]) (m:=1) rfl (by rw[hlen];omega) (by decide);refine Ep rfl (w':=w.setCells g (k*32+j) [.int .u8 v]) ?_ (h _ ⟨h3⟩ ⟨?_⟩)
 ·have hc:=h1 0 (by decide);have hst:=run_store P w ⟨g,k*32+j,none⟩ (.int .u8 v) .plain rfl;rw[Nat.add_zero] at hc;obtain⟨u,hu⟩:=Option.isSome_iff_exists.1 hc.1;rw[hu,hc.2] at hst;show((Instr.storeAt t (a.eval x) (a.eval y))>>=fun _=>pure Next.skip).run P w=_;rw[hx,hy,hA];simp[Instr.storeAt,Instr.sureAddr,AN,Dp,DQ,storeVar,Value.cells,ht.size1 w,storeCells,Be,hst,World.setCells]
 have h32:Af.size Ak=32:=rfl;have hat:=Da l k hk;have hset:=FM l k (Afu (AG l k) j (b8 v)) hk;rw[h32] at hat hset;have hlb:(bs (AG l k).l).length =32:=by rw[Am,Ak.len]
 have hdec:cellsOf l=(cellsOf l).take (k*32)++(bs (AG l k).l ++(cellsOf l).drop (k*32+32)):=by
  conv=>lhs;rw[←List.take_append_drop (k*32) (cellsOf l),←List.take_append_drop 32 ((cellsOf l).drop (k*32)),List.drop_drop]
  rw[show((cellsOf l).drop (k*32)).take 32=bs (AG l k).l from hat]
 have htl:((cellsOf l).take (k*32)).length =k*32:=by rw[List.length_take];omega
 have hs1:(cellsOf l).take (k*32+j)++[Value.int .u8 v]++(cellsOf l).drop (k*32+j+1)=(cellsOf l).set (k*32+j) (.int .u8 v):=by
  rw[List.set_eq_take_append_cons_drop,if_pos (by omega)];simp
 have hs2:(cellsOf l).set (k*32+j) (.int .u8 v)=(cellsOf l).take (k*32)++((bs (AG l k).l).set j (.int .u8 v)++(cellsOf l).drop (k*32+32)):=by
  conv=>lhs;rw[hdec]
  rw[List.set_append,if_neg (by omega),htl,Nat.add_sub_cancel_left,List.set_append,if_pos (by omega)]
 have hs3:(bs (AG l k).l).set j (.int .u8 v)=bs ((AG l k).l.set j (b8 v)):=by
  have:=ZM hv.1 hv.2;rw[bs,bs,List.map_set]
  congr 1
  rw[GV,←this]
 rw[hs1,hs2,hs3,←List.append_assoc] at h2;have hset':List.take (k*32) (cellsOf l)++bs ((AG l k).l.set j (b8 v))++List.drop (k*32+32) (cellsOf l)=cellsOf (l.set k (Afu (AG l k) j (b8 v))):=hset;rw[hset'] at h2;exact h2
end
end Go.Proofs.YtjjhceeookpieaaGreat
end
section
open Go Go.RowKit
namespace Go.Proofs.YtjjhceeookpieaaGreat
def Adb (a b:Nat):Nat→Prop:=fun k=>k=a∨k=b
class Ay (w0 w:World):Prop where
 out:w0.heap.size≤w.heap.size
instance (w:World):Ay w w:=⟨Nat.le_refl _⟩
instance Ay.snoc (S:Nat→Prop) (w0 w w':World) [s:Ag S w w'] [n:Ay w0 w]:Ay w0 w':=⟨Nat.le_trans n.out s.chg.size⟩
class PB (w0:World) (T S:Nat→Prop):Prop where
 out: ∀x,x<w0.heap.size→T x→S x
instance (w0:World) (S:Nat→Prop):PB w0 Ab S:=⟨fun _ _ h=>h.elim⟩
instance (w0:World) (a b:Nat):PB w0 (only a) (Adb a b):=⟨fun _ _ h=> .inl h⟩
instance (w0:World) (a b:Nat):PB w0 (only b) (Adb a b):=⟨fun _ _ h=> .inr h⟩
instance (priority:=900) PB.refl_ (w0:World) (S:Nat→Prop):PB w0 S S:=⟨fun _ _ h=>h⟩
instance (priority:=800) PB.born_ (w0 w:World) (z:Nat) (S:Nat→Prop) [b:AW w z] [n:Ay w0 w]:PB w0 (only z) S:=⟨fun x hx h=>by
 have h':x=z:=h;have:=b.eq;have:=n.out;omega⟩
class Ch (S:Nat→Prop) (w0 w:World):Prop where
 out:Au S w0 w
instance Ch.refl_ (S:Nat→Prop) (w:World):Ch S w w:=⟨Au.refl _ _⟩
instance Ch.snoc (S T:Nat→Prop) (w0 w w':World) [s:Ag T w w'] [n:Ch S w0 w] [i:PB w0 T S]:Ch S w0 w':=⟨n.out.trans s.chg i.out⟩
theorem FA {S:Nat→Prop} {w0 w:World} [n:Ch S w0 w]:Ag S w0 w:=⟨n.out⟩
instance As.both_ (a b g:Nat) [x:As (only a) g] [y:As (only b) g]:As (Adb a b) g:=⟨fun h=>h.elim x.out y.out⟩
instance Ff.both_ (a b:Nat) (A:Option Addr) (vs:List Value) [x:Ff (only a) A vs] [y:Ff (only b) A vs]:Ff (Adb a b) A vs:=⟨fun hne ad e h=>h.elim (x.out hne ad e) (y.out hne ad e)⟩
theorem Aj.monoS {w0 w:World} {A:Option Addr} (h:Aj w A) [n:Ay w0 w]:Aj w0 A:=⟨fun ad e=>Nat.le_trans n.out (h.out ad e)⟩
instance (priority:=700) KE.born_ (w0 w:World) (z:Nat) (T:Nat→Prop) [b:AW w z] [n:Ay w0 w]:KE w0 (only z) T:=⟨fun x hx h=>by
 have h':x=z:=h;have:=b.eq;have:=n.out;omega⟩
class Inv (I:World→Prop) (w:World):Prop where
 out:I w
class IT (I:outParam (World→Prop)) (T:outParam (Nat→Prop)) (wd:outParam World) (w:World):Prop where
 out:Au T wd w
 inv:I w
instance (priority:=500) Ag.heldI (I:World→Prop) (T:Nat→Prop) (wd w:World) [h:IT I T wd w]:Ag T wd w:=⟨h.out⟩
instance (priority:=600) IT.invI (I:World→Prop) (T:Nat→Prop) (wd w:World) [h:IT I T wd w]:Inv I w:=⟨h.inv⟩
instance IT.snoc (I:World→Prop) (S T:Nat→Prop) (wd w w':World) [s:Ag S w w'] [h:IT I T wd w] [u:KE wd S T] [i:Inv I w']:IT I T wd w':=⟨h.out.trans s.chg u.out,i.out⟩
section
variable {P:Program} {ops:Array Oper} {Q:Exit→Act→World→Prop} {a:Act} {w:World}
theorem Bu {rest:List Oper} {Q:Exit→Act→World→Prop} {dst:Option Tmp} {op:Op} {ty:TypeId} {pos:String} {after:Array Edge} (h:wpList P ops Q (⟨dst,op,ty,pos,after,none⟩::rest) a w):wpList P ops Q (⟨dst,op,ty,pos,after,none⟩::rest) a w:=h
theorem Th {id:Nat} (I:World→Prop) (T:Nat→Prop) (hm:P.follows .mixedOrders =true) (hi:Inv I w.drew)
    (h: ∀wd,Ag Ab w wd→IT I T wd wd→wpAnyH P .any ops Q (IT I T wd) ops.size (Array.replicate ops.size false) a wd):(Code.region id ops true).wp P Q a w:=
 wp_region_held_drew (S:=IT I T w.drew) hm ⟨Au.refl _ _,hi.out⟩ (fun _=>h _ inferInstance ⟨Au.refl _ _,hi.out⟩)
theorem DS {I:World→Prop} {T:Nat→Prop} {wd:World} {o:Oper} {v:Value} (hw:Region.wanted o (yielded ops a.tmps)=true) (h: ∀w,IT I T wd w→(execOp a.eval o).run P w= .ok (.value v) w):YieldsIf P ops (IT I T wd) o v a:= .inl ⟨hw,h⟩
end
end Go.Proofs.YtjjhceeookpieaaGreat
end
section
open Go Go.RowKit
namespace Go.Proofs.YtjjhceeookpieaaGreat
section
variable {P:Program} {ops:Array Oper} {rest:List Oper} {a:Act} {w:World} {Q:Exit→Act→World→Prop} {dst:Option Tmp} {ty:TypeId} {pos:String} {after:Array Edge} {gd:Option (Nat×Bool)}
theorem XN {t:TypeId} {x ix:Operand} {A:Option Addr} {n c k:Nat} (hx:a.eval x= .slice A n c) (hi:a.eval ix= .int .i64 (k:Int)) {e:TypeId} {bytes:Nat} {z:Value} (E:Bm P t e 1 bytes z) {vs:List Value} (hr:HR w A vs) (hl:0<vs.length) (h1:k<n):
    (execOp a.eval ⟨dst, .indexAddr t x ix,ty,pos,after,gd⟩).run P w= .ok (.value (AN A k)) w:=by
 obtain⟨ad,hA,_⟩:=hr.out.lt hl;obtain⟨ti,hti,hz,hsz,hb⟩:=info_parts E.out.info;show((Instr.indexAt t (a.eval x) (a.eval ix))>>=fun v=>pure (Next.value v)).run P w=_;rw[hx,hi,hA];simp[Instr.indexAt,asIntOf,run_underlying E.out.under,sizeOf,typeInfo,hti,hsz,h1,AN,DD]
theorem ZR {t:TypeId} {x:Operand} {A:Option Addr} {k:Nat} (hx:a.eval x=AN A k) {vs:List Value} (hr:HR w A vs) (ht:AL P t) {v:Value} (hv:vs[k]? =some v):
    (execOp a.eval ⟨dst, .load t x,ty,pos,after,gd⟩).run P w= .ok (.value v) w:=by
 obtain⟨ad,hA,hc⟩:=hr.out k _ hv;show((Instr.loadAt t (a.eval x))>>=fun v=>pure (Next.value v)).run P w=_;rw[hx,hA];simp[AN,DD,Instr.loadAt,Instr.sureAddr,loadVar,ht.agg w,hc]
theorem Vq {t:TypeId} {x ix:Operand} {A:Option Addr} {n c k:Nat} (hx:a.eval x= .slice A n c) (hi:a.eval ix= .int .i64 (k:Int)) {e:TypeId} {bytes:Nat} {z:Value} (E:Bm P t e 1 bytes z) {vs:List Value} (hr:HR w A vs) (hl:0<vs.length) (h1:k<n)
    (h:wpList P ops Q rest (a.put dst (AN A k)) w):wpList P ops Q (⟨dst, .indexAddr t x ix,ty,pos,after,none⟩::rest) a w:=Av rfl (XN hx hi E hr hl h1) h
theorem XO {t:TypeId} {x:Operand} {A:Option Addr} {k:Nat} (hx:a.eval x=AN A k) {vs:List Value} (hr:HR w A vs) (ht:AL P t) {v:Value} (hv:vs[k]? =some v)
    (h:wpList P ops Q rest (a.put dst v) w):wpList P ops Q (⟨dst, .load t x,ty,pos,after,none⟩::rest) a w:=Av rfl (ZR hx hr ht hv) h
end
end Go.Proofs.YtjjhceeookpieaaGreat
end
section
open Go Go.RowKit
namespace Go.Proofs.YtjjhceeookpieaaGreat
def Ic (l:List Int):List Value:=l.map (.int .i64)
theorem Adc (l:List Int) (k:Nat) (h:k<l.length):(Ic l)[k]? =some (.int .i64 (Ej l k)):=by
 simp[Ic,Ej,List.getD_eq_getElem?_getD,h]
section
variable {P:Program} {ops:Array Oper} {rest:List Oper} {a:Act} {w:World} {Q:Exit→Act→World→Prop} {dst:Option Tmp} {ty:TypeId} {pos:String} {after:Array Edge} {gd:Option (Nat×Bool)}
theorem XP {t:TypeId} {x ix:Operand} {A:Option Addr} {n c k:Nat} (hx:a.eval x= .slice A n c) (hi:a.eval ix= .int .i64 (k:Int)) {e:TypeId} {bytes:Nat} {z:Value} (E:Bm P t e 1 bytes z) {l:List Int} (hr:HR w A (Ic l)) (hl:l.length=n) (h1:k<n):
    (execOp a.eval ⟨dst, .indexAddr t x ix,ty,pos,after,gd⟩).run P w= .ok (.value (AN A k)) w:=by
 obtain⟨ad,hA,_⟩:=hr.out.lt (by rw[Ic,List.length_map,hl];omega);obtain⟨ti,hti,hz,hsz,hb⟩:=info_parts E.out.info;show((Instr.indexAt t (a.eval x) (a.eval ix))>>=fun v=>pure (Next.value v)).run P w=_;rw[hx,hi,hA];simp[Instr.indexAt,asIntOf,run_underlying E.out.under,sizeOf,typeInfo,hti,hsz,h1,AN,DD]
theorem ZS {t:TypeId} {x:Operand} {A:Option Addr} {k:Nat} (hx:a.eval x=AN A k) {l:List Int} (hr:HR w A (Ic l)) (ht:AL P t) (hk:k<l.length):
    (execOp a.eval ⟨dst, .load t x,ty,pos,after,gd⟩).run P w= .ok (.value (.int .i64 (Ej l k))) w:=by
 obtain⟨ad,hA,hc⟩:=hr.out k _ (Adc l k hk);show((Instr.loadAt t (a.eval x))>>=fun v=>pure (Next.value v)).run P w=_;rw[hx,hA];simp[AN,DD,Instr.loadAt,Instr.sureAddr,loadVar,ht.agg w,hc]
theorem KF {t:TypeId} {x ix:Operand} {A:Option Addr} {n c k:Nat} (hx:a.eval x= .slice A n c) (hi:a.eval ix= .int .i64 (k:Int)) {e:TypeId} {bytes:Nat} {z:Value} (E:Bm P t e 1 bytes z) {l:List Int} (hr:HR w A (Ic l)) (hl:l.length=n) (h1:k<n)
    (h:wpList P ops Q rest (a.put dst (AN A k)) w):wpList P ops Q (⟨dst, .indexAddr t x ix,ty,pos,after,none⟩::rest) a w:=Av rfl (XP hx hi E hr hl h1) h
theorem Md {t:TypeId} {x:Operand} {A:Option Addr} {k:Nat} (hx:a.eval x=AN A k) {l:List Int} (hr:HR w A (Ic l)) (ht:AL P t) (hk:k<l.length)
    (h:wpList P ops Q rest (a.put dst (.int .i64 (Ej l k))) w):wpList P ops Q (⟨dst, .load t x,ty,pos,after,none⟩::rest) a w:=Av rfl (ZS hx hr ht hk) h
end
end Go.Proofs.YtjjhceeookpieaaGreat
end
