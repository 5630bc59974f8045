/- UhZ, UhRowE -/
import Derived.Test.YtjjhceeookpieaaGreatUhBase
section
section
open Go Go.RowKit
namespace Go.Proofs.YtjjhceeookpieaaGreat
inductive Tg {α:Sort _} (a:α):Prop|mk
structure Kp (p:Prop):Prop where
 out:p
section
variable {P:Program} {ops:Array Oper} {rest:List Oper} {a:Act} {w:World} {Q:Exit→Act→World→Prop} {dst:Option Tmp} {ty:TypeId} {pos:String} {after:Array Edge} {t:TypeId} {x y:Operand} {i:Nat}
theorem JL {d:Tmp} {op:Op} (_:Tg d) (h:wpList P ops Q (⟨some d,op,ty,pos,after,none⟩::rest) a w):wpList P ops Q (⟨some d,op,ty,pos,after,none⟩::rest) a w:=h
theorem atL (_:Tg t) (h:wpList P ops Q (⟨dst, .load t x,ty,pos,after,none⟩::rest) a w):wpList P ops Q (⟨dst, .load t x,ty,pos,after,none⟩::rest) a w:=h
theorem atS (_:Tg t) (h:wpList P ops Q (⟨dst, .store t x y,ty,pos,after,none⟩::rest) a w):wpList P ops Q (⟨dst, .store t x y,ty,pos,after,none⟩::rest) a w:=h
theorem atF (_:Tg t) (h:wpList P ops Q (⟨dst, .fieldAddr t x i,ty,pos,after,none⟩::rest) a w):wpList P ops Q (⟨dst, .fieldAddr t x i,ty,pos,after,none⟩::rest) a w:=h
theorem IR {k:Nat} (_:Tg k) {g:Nat} (hx:a.eval x= .pointer (some ⟨g,k,none⟩)) {tb:TypeId} {cs:Array Value} (hb:HB w g tb cs) [ht:AL P t] {v:Value} (hv:Eg cs.toList k=some v)
 (h:wpList P ops Q rest (a.put dst v) w):wpList P ops Q (⟨dst, .load t x,ty,pos,after,none⟩::rest) a w:=Ac hx hb hv h
theorem Pr {k:Nat} (_:Tg k) {g:Nat} {v:Value} (hx:a.eval x= .pointer (some ⟨g,k,none⟩)) (hy:a.eval y=v) {tb:TypeId} {cs:Array Value} (hb:HB w g tb cs) [ht:AL P t] (h1:v.oneCell'=true) (hk:k<cs.size)
 (h: ∀w',Ag (only g) w w'→HB w' g tb (cs.setIfInBounds k v)→wpList P ops Q rest (a.put dst undef) w'):wpList P ops Q (⟨dst, .store t x y,ty,pos,after,none⟩::rest) a w:=AU hx hy hb h1 hk h
end
theorem Vi {P:Program} {a:Act} {w:World} {Q:Exit→Act→World→Prop} {md:Region.Mode} {S:World→Prop} {l:List Oper} {oi:Oper} {fuel:Nat} {listed:Array Bool} {i:Nat} (_:Tg i) {v:Value} (hi:Eg l i=some oi) (hs:Region.noSelect l.toArray=true) (hf:Region.free md l.toArray listed i=true) (hr:(Region.ready md l.toArray listed).contains i=true) (hQ: ∀c a w,Q (.panic c) (a.put oi.dst v) w→Q (.panic c) a w) (hy:YieldsIf P l.toArray S oi v a) (hS:S w) (h:wpAnyH P md l.toArray Q S fuel (listed.setIfInBounds i true) (a.put oi.dst v) w):wpAnyH P md l.toArray Q S (fuel+1) listed a w:=
 Jk hi hs hf hr hQ hy hS h
theorem Yg {P:Program} {a:Act} {w:World} {Q:Exit→Act→World→Prop} {md:Region.Mode} {S:World→Prop} {l:List Oper} {fuel:Nat} {listed:Array Bool} (i:Nat) {o:Oper} (h: ∀K':Act→World→Prop,Shut (∀a w,S w→(S w→wpAnyH P md l.toArray Q S fuel (listed.setIfInBounds i true) a w)→K' a w)→if Region.wanted o (yielded l.toArray a.tmps)=true then Oper.wp P o a w K' Q else K' (a.put o.dst undef) w) (hr:Region.ready md l.toArray listed=[i]:=by kernel_rfl) (ho:Eg l i=some o:=by exact rfl):
  wpAnyH P md l.toArray Q S (fuel+1) listed a w:=goH hr ho h
theorem Yh {P:Program} {a:Act} {w:World} {Q:Exit→Act→World→Prop} {md:Region.Mode} {S:World→Prop} {l:List Oper} {fuel:Nat} {listed:Array Bool} (i:Nat) {dst:Option Tmp} {op:Op} {ty:TypeId} {pos:String} {after:Array Edge} {g:Option (Nat×Bool)} (h: ∀K':Act→World→Prop,Shut (∀a w,S w→(S w→wpAnyH P md l.toArray Q S fuel (listed.setIfInBounds i true) a w)→K' a w)→wpList P #[] (Td K') [⟨dst,op,ty,pos,after,none⟩] a w) (hr:Region.ready md l.toArray listed=[i]:=by kernel_rfl) (ho:Eg l i=some ⟨dst,op,ty,pos,after,g⟩:=by exact rfl) (hw:Region.wanted ⟨dst,op,ty,pos,after,g⟩ (yielded l.toArray a.tmps)=true:=by kernel_rfl):
  wpAnyH P md l.toArray Q S (fuel+1) listed a w:=goH hr ho fun K' k=>by rw[if_pos hw];exact MK (h K' k)
theorem YS {G N:Prop} (ι:Nat) (n:N) (h:Tg ι→Kp N→G:=by intro ι n;refine' Vi ι rfl (by kernel_rfl) (by kernel_rfl) (by kernel_rfl) (fun _ _ _ h=>h) (yo (by rfl) fun w' _=> ?_) inferInstance ?_;rotate_left;(focus (go_simp;try with_reducible rfl));(try simp only[Act.put,sA,sB,sC]);exact n.out):G:=h ⟨⟩ ⟨n⟩
theorem WN {G N:Prop} (ι:Nat) (n:N) (h:Tg ι→Kp N→G:=by intro ι n;refine' Vi ι rfl (by kernel_rfl) (by kernel_rfl) (by kernel_rfl) (fun _ _ _ h=>h) (yo (by rfl) fun w' _=> ?_) inferInstance ?_;rotate_left;(focus (apply Ai;exact rfl;infer_instance;infer_instance;exact rfl));(try simp only[Act.put,sA,sB,sC]);exact n.out):G:=h ⟨⟩ ⟨n⟩
theorem KW {G N:Prop} (ι:Nat) (n:N) (h:Tg ι→Kp N→G:=by intro ι n;refine' Vi ι rfl (by kernel_rfl) (by kernel_rfl) (by kernel_rfl) (fun _ _ _ h=>h) (yo (by rfl) fun w' _=> ?_) inferInstance ?_;rotate_left;(focus (apply Ix;exact rfl;infer_instance;infer_instance;(first|(with_reducible assumption)|(with_reducible exact Ak.size _)|(with_reducible exact Ms _ rfl)|kernel_rfl)));(try simp only[Act.put,sA,sB,sC]);exact n.out):G:=h ⟨⟩ ⟨n⟩
theorem Vj {G N:Prop} (ι:Nat) (n:N) (h:Tg ι→Kp N→G:=by intro ι n;refine' Vi ι rfl (by kernel_rfl) (by kernel_rfl) (by kernel_rfl) (fun _ _ _ h=>h) (yo (by rfl) fun w' _=> ?_) inferInstance ?_;rotate_left;(focus (apply Vp;exact rfl;exact rfl;infer_instance;infer_instance;(first|(with_reducible assumption)|omega);(first|(with_reducible assumption)|omega);(first|(with_reducible assumption)|omega)));(try simp only[Act.put,sA,sB,sC]);exact n.out):G:=h ⟨⟩ ⟨n⟩
theorem YSL {G N:Prop} (ι:Nat) (n:N) (h:Tg ι→Kp N→G:=by intro ι n;refine' Vi ι rfl (by kernel_rfl) (by kernel_rfl) (by kernel_rfl) (fun _ _ _ h=>h) (yo (by rfl) fun w' _=> ?_) inferInstance ?_;rotate_left;(focus (apply Rt;exact rfl;exact rfl;infer_instance;(first|(with_reducible assumption)|omega)));(try simp only[Act.put,sA,sB,sC]);exact n.out):G:=h ⟨⟩ ⟨n⟩
theorem YSH {G N:Prop} (ι:Nat) (n:N) (h:Tg ι→Kp N→G:=by intro ι n;refine' Vi ι rfl (by kernel_rfl) (by kernel_rfl) (by kernel_rfl) (fun _ _ _ h=>h) (yo (by rfl) fun w' _=> ?_) inferInstance ?_;rotate_left;(focus (apply Rs;exact rfl;exact rfl;infer_instance;(first|(with_reducible assumption)|omega)));(try simp only[Act.put,sA,sB,sC]);exact n.out):G:=h ⟨⟩ ⟨n⟩
theorem YB {G N:Prop} (ι:Nat) {pτ:Prop} (p:pτ) (n:N) (h:Tg ι→pτ→Kp N→G:=by intro ι p n;refine' Vi ι rfl (by kernel_rfl) (by kernel_rfl) (by kernel_rfl) (fun _ _ _ h=>h) (yo (by rfl) fun w' _=> ?_) inferInstance ?_;rotate_left;(focus (apply Jl;exact p _));(try simp only[Act.put,sA,sB,sC]);exact n.out):G:=h ⟨⟩ p ⟨n⟩
theorem Gx {G N:Prop} (ι:Nat) (α:Type) (t:Nat) (n:N) (h:Tg ι→Tg α→Tg t→Kp N→G:=by intro ι α t n;refine' Vi ι rfl (by kernel_rfl) (by kernel_rfl) (by kernel_rfl) (fun _ _ _ h=>h) (yo (by rfl) fun w' _=> ?_) inferInstance ?_;rotate_left;(focus (apply Wl α t;exact rfl;exact rfl;infer_instance;infer_instance;(first|(with_reducible assumption)|omega|(focus (simp;done))|(focus (simp;omega;done))|decide);exact rfl;decide;(first|(with_reducible assumption)|omega|(focus (simp;done))|(focus (simp;omega;done))|decide)));(try simp only[Act.put,sA,sB,sC]);exact n.out):G:=h ⟨⟩ ⟨⟩ ⟨⟩ ⟨n⟩
theorem Jh {G N:Prop} (ι:Nat) (t:Nat) {uτ:Prop} (u:uτ) (n:N) (h:Tg ι→Tg t→uτ→Kp N→G:=by intro ι t u n;refine' Vi ι rfl (by kernel_rfl) (by kernel_rfl) (by kernel_rfl) (fun _ _ _ h=>h) (yo (by rfl) fun w' _=> ?_) inferInstance ?_;rotate_left;(focus (apply Wn t;exact u;exact rfl;kernel_rfl;exact rfl;infer_instance;exact QV (by decide) (by omega)));(try simp only[Act.put,sA,sB,sC]);exact n.out):G:=h ⟨⟩ ⟨⟩ u ⟨n⟩
theorem Vc {G N:Prop} (ι:Nat) (α:Type) (t:Nat) (n:N) (h:Tg ι→Tg α→Tg t→Kp N→G:=by intro ι α t n;refine' Vi ι rfl (by kernel_rfl) (by kernel_rfl) (by kernel_rfl) (fun _ _ _ h=>h) (yo (by rfl) fun w' _=> ?_) inferInstance ?_;rotate_left;(focus (apply Zg α t;infer_instance;exact rfl;infer_instance;exact rfl;decide;(first|(with_reducible assumption)|omega|(focus (simp;done))|(focus (simp;omega;done))|decide)));(try simp only[Act.put,sA,sB,sC]);exact n.out):G:=h ⟨⟩ ⟨⟩ ⟨⟩ ⟨n⟩
theorem Vk {G N:Prop} (ι:Nat) (t:Nat) (n:N) (h:Tg ι→Tg t→Kp N→G:=by intro ι t n;refine' Vi ι rfl (by kernel_rfl) (by kernel_rfl) (by kernel_rfl) (fun _ _ _ h=>h) (yo (by rfl) fun w' _=> ?_) inferInstance ?_;rotate_left;(focus (apply SU t;exact rfl;infer_instance;infer_instance;(first|(with_reducible assumption)|omega)));(try simp only[Act.put,sA,sB,sC]);exact n.out):G:=h ⟨⟩ ⟨⟩ ⟨n⟩
theorem YLI {G N:Prop} (ι:Nat) (t:Nat) (n:N) (h:Tg ι→Tg t→Kp N→G:=by intro ι t n;refine' Vi ι rfl (by kernel_rfl) (by kernel_rfl) (by kernel_rfl) (fun _ _ _ h=>h) (yo (by rfl) fun w' _=> ?_) inferInstance ?_;rotate_left;(focus (apply Vd t;exact rfl;infer_instance;infer_instance;(first|(with_reducible assumption)|omega)));(try simp only[Act.put,sA,sB,sC]);exact n.out):G:=h ⟨⟩ ⟨⟩ ⟨n⟩
theorem IS {G N:Prop} (ι:Nat) (k:Nat) {pτ:Prop} (p:pτ) (n:N) (h:Tg ι→Tg k→pτ→Kp N→G:=by intro ι k p n;refine' Vi ι rfl (by kernel_rfl) (by kernel_rfl) (by kernel_rfl) (fun _ _ _ h=>h) (yo (by rfl) fun w' _=> ?_) inferInstance ?_;rotate_left;(focus (apply Qm k;exact rfl;infer_instance;infer_instance;exact p));(try simp only[Act.put,sA,sB,sC]);exact n.out):G:=h ⟨⟩ ⟨⟩ p ⟨n⟩
theorem YLG {G N:Prop} (ι:Nat) (α:Type) (k:Nat) (j:Nat) (s:Nat) {uτ:Prop} (u:uτ) {pτ:Prop} (p:pτ) (n:N) (h:Tg ι→Tg α→Tg k→Tg j→Tg s→uτ→pτ→Kp N→G:=by intro ι α k j s u p n;refine' Vi ι rfl (by kernel_rfl) (by kernel_rfl) (by kernel_rfl) (fun _ _ _ h=>h) (yo (by rfl) fun w' _=> ?_) inferInstance ?_;rotate_left;(focus (apply Zh α k j s;infer_instance;exact rfl;infer_instance;exact rfl;exact u;exact p));(try simp only[Act.put,sA,sB,sC]);exact n.out):G:=h ⟨⟩ ⟨⟩ ⟨⟩ ⟨⟩ ⟨⟩ u p ⟨n⟩
theorem XE {G N:Prop} (ι:Nat) (n:N) (h:Tg ι→Kp N→G:=by intro ι n;refine' Vi ι rfl (by kernel_rfl) (by kernel_rfl) (by kernel_rfl) (fun _ _ _ h=>h) (DS (by rfl) fun w' _=> ?_) inferInstance ?_;rotate_left;(focus (go_simp;try with_reducible rfl));(try simp only[Act.put,sA,sB,sC]);exact n.out):G:=h ⟨⟩ ⟨n⟩
theorem YU {G N:Prop} (j:Nat) (n:N) (h:Tg j→Kp N→G:=by intro j n;refine Vi j (v:=undef) rfl (by kernel_rfl) (by kernel_rfl) (by kernel_rfl) (fun _ _ _ h=>h) (Or.inr ⟨by rfl,rfl⟩) inferInstance ?_;(try simp only[Act.put,sA,sB,sC]);exact n.out):G:=h ⟨⟩ ⟨n⟩
theorem Yz {p G N:Prop} (k:Shut p) (n:N) (h:Shut p→Kp N→G:=by intro k n;refine k.out _ _ inferInstance (fun _=> ?_);(try simp only[Act.put,sA,sB,sC]);exact n.out):G:=h k ⟨n⟩
theorem Yn {p G N:Prop} (k:Shut p) (n:N) (h:Shut p→Kp N→G:=by intro k n;refine wpList_nil ?_;unfold Td;refine k.out _ _ inferInstance (fun _=> ?_);(try simp only[Act.put,sA,sB,sC]);exact n.out):G:=h k ⟨n⟩
theorem Ym {p G N:Prop} (k:Shut p) (n:N) (h:Shut p→Kp N→G:=by intro k n;refine wpList_nil ?_;unfold Td;refine k.out _ _ inferInstance (fun _=> ?_);(try simp only[Act.put]);exact n.out):G:=h k ⟨n⟩
theorem Yq {G N:Prop} (n:N) (h:Kp N→G:=by intro n;rw[if_pos (by kernel_rfl)];refine MK ?_;exact n.out):G:=h ⟨n⟩
theorem Yd {G N:Prop} (n:N) (h:Kp N→G:=by intro n;refine wpAnyH_done (by kernel_rfl) ?_ _;exact n.out):G:=h ⟨n⟩
theorem Bt {G N:Prop} (n:N) (h:Kp N→G:=by intro n;(with_reducible apply DR);exact rfl;exact rfl;infer_instance;infer_instance;(first|(with_reducible assumption)|(with_reducible exact Ak.size _)|(with_reducible exact Ms _ rfl)|kernel_rfl);(first|(with_reducible assumption)|(with_reducible exact Ak.size _)|(with_reducible exact Ms _ rfl)|kernel_rfl);(first|(with_reducible exact Ek _)|(with_reducible assumption)|(with_reducible exact AY _)|kernel_rfl);exact n.out):G:=h ⟨n⟩
theorem NN {G N:Prop} {pτ:Prop} (p:pτ) {qτ:Prop} (q:qτ) {rτ:Prop} (r:rτ) (n:N) (h:pτ→qτ→rτ→Kp N→G:=by intro p q r n;(with_reducible apply DR);exact rfl;exact rfl;infer_instance;infer_instance;exact p;exact q;exact r;exact n.out):G:=h p q r ⟨n⟩
theorem Cp {G N:Prop} (n:N) (h:Kp N→G:=by intro n;(with_reducible apply BP);exact rfl;infer_instance;infer_instance;(first|(with_reducible assumption)|(with_reducible exact Ak.size _)|(with_reducible exact Ms _ rfl)|kernel_rfl);exact n.out):G:=h ⟨n⟩
theorem GU {G N:Prop} (n:N) (h:Kp N→G:=by intro n;(with_reducible apply Ac);exact rfl;infer_instance;exact rfl;exact n.out):G:=h ⟨n⟩
theorem ZJ {G N:Prop} {pτ:Prop} (p:pτ) (n:N) (h:pτ→Kp N→G:=by intro p n;(with_reducible apply Ac);exact rfl;exact p;exact rfl;exact n.out):G:=h p ⟨n⟩
theorem Ct {G N:Prop} (n:N) (h:Kp N→G:=by intro n;(with_reducible apply Ef (op:= .load _ _));exact rfl;exact n.out):G:=h ⟨n⟩
theorem CG {G N:Prop} (n:N) (h:Kp N→G:=by intro n;(with_reducible apply Ef (op:= .fieldAddr _ _ _));exact rfl;exact n.out):G:=h ⟨n⟩
theorem WGC {G N:Prop} (n:N) (h:Kp N→G:=by intro n;(with_reducible apply Ef (op:= .call _));exact rfl;exact n.out):G:=h ⟨n⟩
theorem WGB {G N:Prop} (n:N) (h:Kp N→G:=by intro n;(with_reducible apply Ef (op:= .buildSlice _ _ _));exact rfl;exact n.out):G:=h ⟨n⟩
theorem WGO {G N:Prop} (n:N) (h:Kp N→G:=by intro n;(with_reducible apply Ef (op:= .binOp _ _ _ _ _));exact rfl;exact n.out):G:=h ⟨n⟩
theorem WGI {G N:Prop} (n:N) (h:Kp N→G:=by intro n;(with_reducible apply Ef (op:= .indexAddr _ _ _));exact rfl;exact n.out):G:=h ⟨n⟩
theorem Bv {G N:Prop} (d:Nat) (n:N) (h:Tg d→Kp N→G:=by intro d n;(with_reducible apply JL d);(with_reducible apply MH);exact rfl;exact n.out):G:=h ⟨⟩ ⟨n⟩
theorem WBL {G N:Prop} (d:Nat) (n:N) (h:Tg d→Kp N→G:=by intro d n;(with_reducible apply JL d);(with_reducible apply Kk);exact rfl;exact n.out):G:=h ⟨⟩ ⟨n⟩
theorem BB {G N:Prop} (d:Nat) (n:N) (h:Tg d→Kp N→G:=by intro d n;(with_reducible apply JL d);(with_reducible apply XH);exact n.out):G:=h ⟨⟩ ⟨n⟩
theorem WL {G N:Prop} (d:Nat) (k:Nat) {pτ:Prop} (p:pτ) (n:N) (h:Tg d→Tg k→pτ→Kp N→G:=by intro d k p n;(with_reducible apply JL d);(with_reducible apply IR k);exact rfl;infer_instance;exact p;exact n.out):G:=h ⟨⟩ ⟨⟩ p ⟨n⟩
theorem WH {G N:Prop} (d:Nat) (k:Nat) {qτ:Prop} (q:qτ) {pτ:Prop} (p:pτ) (n:N) (h:Tg d→Tg k→qτ→pτ→Kp N→G:=by intro d k q p n;(with_reducible apply JL d);(with_reducible apply IR k);exact rfl;exact q;exact p;exact n.out):G:=h ⟨⟩ ⟨⟩ q p ⟨n⟩
theorem WO {G N:Prop} (k:Nat) {pτ:Prop} (p:pτ) (n:N) (h:Tg k→pτ→Kp N→G:=by intro k p n;(with_reducible apply IR k);exact rfl;infer_instance;exact p;exact n.out):G:=h ⟨⟩ p ⟨n⟩
theorem SS {G N:Prop} (k:Nat) {qτ:Prop} (q:qτ) {pτ:Prop} (p:pτ) (n:N) (h:Tg k→qτ→pτ→Kp N→G:=by intro k q p n;(with_reducible apply IR k);exact rfl;exact q;exact p;exact n.out):G:=h ⟨⟩ q p ⟨n⟩
theorem BM {G N:Prop} (d:Nat) {pτ:Prop} (p:pτ) (n:N) (h:Tg d→pτ→Kp N→G:=by intro d p n;(with_reducible apply JL d);(try simp only[Act.put,sA,sB,sC]);(with_reducible apply JL d);(with_reducible apply Iw);exact p;exact n.out):G:=h ⟨⟩ p ⟨n⟩
theorem WSB {G N:Prop} (d:Nat) {pτ:Prop} (p:pτ) (n:N) (h:Tg d→pτ→Kp N→G:=by intro d p n;(with_reducible apply JL d);(try simp only[Act.put,sA,sB,sC]);(with_reducible apply JL d);(with_reducible apply Qo);exact p;exact n.out):G:=h ⟨⟩ p ⟨n⟩
theorem WBs {G N:Prop} {pτ:Prop} (p:pτ) (n:N) (h:pτ→Kp N→G:=by intro p n;(with_reducible apply Iw);exact p;exact n.out):G:=h p ⟨n⟩
theorem Ji {G N:Prop} {pτ:Prop} (p:pτ) (n:N) (h:pτ→Kp N→G:=by intro p n;(with_reducible apply Qo);exact p;exact n.out):G:=h p ⟨n⟩
theorem NO {G N:Prop} (n:N) (h:Kp N→G:=by intro n;(with_reducible apply GY);exact rfl;exact rfl;infer_instance;(first|exact inferInstance|exact⟨Cm.nil _ _ _⟩);infer_instance;(first|(with_reducible assumption)|(with_reducible exact Ak.len _)|(focus (simp;done))|omega);(first|(with_reducible assumption)|omega);exact n.out):G:=h ⟨n⟩
theorem XF {G N:Prop} (n:N) (h:Kp N→G:=by intro n;(with_reducible apply FN);exact rfl;exact rfl;infer_instance;(first|exact inferInstance|exact⟨Cm.nil _ _ _⟩);infer_instance;(first|(with_reducible assumption)|omega);exact n.out):G:=h ⟨n⟩
theorem KZ {G N:Prop} (n:N) (h:Kp N→G:=by intro n;(with_reducible apply AU);exact rfl;exact rfl;infer_instance;exact rfl;(first|(with_reducible assumption)|omega|(focus (simp;done))|(focus (simp;omega;done))|decide);exact n.out):G:=h ⟨n⟩
theorem WSk {G N:Prop} (k:Nat) {qτ:Prop} (q:qτ) {pτ:Prop} (p:pτ) (n:N) (h:Tg k→qτ→pτ→Kp N→G:=by intro k q p n;(with_reducible apply Pr k);exact rfl;exact rfl;exact q;exact rfl;exact p;exact n.out):G:=h ⟨⟩ q p ⟨n⟩
theorem WSj {G N:Prop} (k:Nat) {pτ:Prop} (p:pτ) (n:N) (h:Tg k→pτ→Kp N→G:=by intro k p n;(with_reducible apply Pr k);exact rfl;exact rfl;infer_instance;exact rfl;exact p;exact n.out):G:=h ⟨⟩ p ⟨n⟩
theorem SX {G N:Prop} (t:Nat) {uτ:Prop} (u:uτ) (n:N) (h:Tg t→uτ→Kp N→G:=by intro t u n;(with_reducible apply atF t);(with_reducible apply Wk);exact u;exact rfl;kernel_rfl;exact rfl;infer_instance;exact QV (by decide) (by omega);exact n.out):G:=h ⟨⟩ u ⟨n⟩
theorem WSX {G N:Prop} (t:Nat) (n:N) (h:Tg t→Kp N→G:=by intro t n;(with_reducible apply atS t);(with_reducible apply Py);exact rfl;exact rfl;infer_instance;(first|(with_reducible assumption)|omega|(focus (simp;done))|(focus (simp;omega;done))|decide);constructor<;>omega;exact n.out):G:=h ⟨⟩ ⟨n⟩
theorem WIH {G N:Prop} (n:N) (h:Kp N→G:=by intro n;(with_reducible apply Vn);exact rfl;exact rfl;infer_instance;infer_instance;(first|(with_reducible assumption)|omega);(first|(with_reducible assumption)|omega);(first|(with_reducible assumption)|omega);exact n.out):G:=h ⟨n⟩
theorem WSH {G N:Prop} (t:Nat) (n:N) (h:Tg t→Kp N→G:=by intro t n;(with_reducible apply atS t);(with_reducible apply PA);exact rfl;exact rfl;infer_instance;infer_instance;(first|(with_reducible assumption)|omega|(focus (simp;done))|(focus (simp;omega;done))|decide);exact n.out):G:=h ⟨⟩ ⟨n⟩
theorem ZD {G N:Prop} (t:Nat) (n:N) (h:Tg t→Kp N→G:=by intro t n;(with_reducible apply atS t);(with_reducible apply Rp);exact rfl;exact rfl;infer_instance;(first|(with_reducible assumption)|omega);exact n.out):G:=h ⟨⟩ ⟨n⟩
theorem WLH {G N:Prop} (t:Nat) (n:N) (h:Tg t→Kp N→G:=by intro t n;(with_reducible apply atL t);(with_reducible apply Rr);exact rfl;infer_instance;infer_instance;(first|(with_reducible assumption)|omega);exact n.out):G:=h ⟨⟩ ⟨n⟩
theorem WLB {G N:Prop} (t:Nat) (n:N) (h:Tg t→Kp N→G:=by intro t n;(with_reducible apply atL t);(with_reducible apply Ro);exact rfl;infer_instance;infer_instance;(first|(with_reducible assumption)|omega);exact n.out):G:=h ⟨⟩ ⟨n⟩
theorem WLI {G N:Prop} (t:Nat) (n:N) (h:Tg t→Kp N→G:=by intro t n;(with_reducible apply atL t);(with_reducible apply Tb);exact rfl;infer_instance;infer_instance;(first|(with_reducible assumption)|omega);exact n.out):G:=h ⟨⟩ ⟨n⟩
theorem Ja {G N:Prop} (α:Type) (t:Nat) (n:N) (h:Tg α→Tg t→Kp N→G:=by intro α t n;(with_reducible apply Uh α t);exact rfl;exact rfl;infer_instance;infer_instance;(first|(with_reducible assumption)|omega|(focus (simp;done))|(focus (simp;omega;done))|decide);exact rfl;decide;(first|(with_reducible assumption)|omega|(focus (simp;done))|(focus (simp;omega;done))|decide);exact n.out):G:=h ⟨⟩ ⟨⟩ ⟨n⟩
theorem Rk {G N:Prop} (α:Type) (t:Nat) (n:N) (h:Tg α→Tg t→Kp N→G:=by intro α t n;(with_reducible apply Wm α t);infer_instance;exact rfl;infer_instance;exact rfl;decide;(first|(with_reducible assumption)|omega|(focus (simp;done))|(focus (simp;omega;done))|decide);exact n.out):G:=h ⟨⟩ ⟨⟩ ⟨n⟩
theorem WAR {G N:Prop} (α:Type) (n:N) (h:Tg α→Kp N→G:=by intro α n;(with_reducible apply ST α);exact rfl;exact rfl;infer_instance;(first|exact inferInstance|exact⟨Cm.nil _ _ _⟩);infer_instance;exact rfl;(first|(with_reducible assumption)|(with_reducible exact Ak.len _)|(focus (simp;done))|omega);(first|(with_reducible assumption)|omega);decide;decide;exact n.out):G:=h ⟨⟩ ⟨n⟩
theorem XG {G N:Prop} (d:Nat) (α:Type) (k:Nat) (j:Nat) (s:Nat) {qτ:Prop} (q:qτ) {uτ:Prop} (u:uτ) {pτ:Prop} (p:pτ) (n:N) (h:Tg d→Tg α→Tg k→Tg j→Tg s→qτ→uτ→pτ→Kp N→G:=by intro d α k j s q u p n;(with_reducible apply JL d);(with_reducible apply OQ α k j s);infer_instance;exact rfl;exact q;exact rfl;exact u;exact p;exact n.out):G:=h ⟨⟩ ⟨⟩ ⟨⟩ ⟨⟩ ⟨⟩ q u p ⟨n⟩
theorem WLG {G N:Prop} (d:Nat) (α:Type) (k:Nat) (j:Nat) (s:Nat) {uτ:Prop} (u:uτ) {pτ:Prop} (p:pτ) (n:N) (h:Tg d→Tg α→Tg k→Tg j→Tg s→uτ→pτ→Kp N→G:=by intro d α k j s u p n;(with_reducible apply JL d);(with_reducible apply OQ α k j s);infer_instance;exact rfl;infer_instance;exact rfl;exact u;exact p;exact n.out):G:=h ⟨⟩ ⟨⟩ ⟨⟩ ⟨⟩ ⟨⟩ u p ⟨n⟩
end Go.Proofs.YtjjhceeookpieaaGreat
end
section
open Go Go.RowKit
namespace Go.Proofs.YtjjhceeookpieaaGreat
variable {P:Program} {ops:Array Oper} {rest:List Oper} {a:Act} {w:World} {Q:Exit→Act→World→Prop} {dst:Option Tmp} {ty:TypeId} {pos:String} {after:Array Edge} {gd:Option (Nat×Bool)}
theorem ST {α:Type} (_:Tg α) [Af α] {s x:Operand} {t e:TypeId} {size bytes:Nat} {z:Value} {A:Option Addr} {n c:Nat} (hs:a.eval s= .slice A n c) {A2:Option Addr} {m c2:Nat} (hx:a.eval x= .slice A2 m c2) (E:Bm P t e size bytes z) {l:List α} (ho:HO w e size A n c (cellsOf l)) {news:List α} (hr:HR w A2 (cellsOf news)) (hsz:size=Af.size α) (hl:news.length=m) (hlim:n+m≤1000000000) (hb:bytes≤100000) (h0:0<size) (h: ∀A' c' w',Ag (An A) w w'→HO w' e size A' (n+m) c' (cellsOf (l++news))→Mc w A A'→n+m≤c'→wpList P ops Q rest (a.put dst (.slice A' (n+m) c')) w'):wpList P ops Q (⟨dst, .call {callee:= .builtin .append,args:=#[s,x],argTypes:=#[t,t]},ty,pos,after,none⟩::rest) a w:=Bb hs hx E ho hr hsz hl hlim hb h0 h
theorem SU {t:TypeId} (_:Tg t) {x:Operand} {A:Option Addr} {k:Nat} (hx:a.eval x=AN A (k*32)) {l:List Ak} (hr:HR w A (cellsOf l)) (ht:Cl P t 32) (hk:k<l.length):(execOp a.eval ⟨dst, .load t x,ty,pos,after,gd⟩).run P w= .ok (.value (.agg (Aw (AG l k).l))) w:=Te hx hr ht hk
theorem Vd {t:TypeId} (_:Tg t) {x:Operand} {g k:Nat} (hx:a.eval x= .pointer (some ⟨g,k,none⟩)) {tb:TypeId} {l:List Int} (hb:HB w g tb (Df l)) (ht:AL P t) (hk:k<l.length):(execOp a.eval ⟨dst, .load t x,ty,pos,after,gd⟩).run P w= .ok (.value (.int .i64 (Ej l k))) w:=Vo hx hb ht hk
theorem Qm {t:TypeId} {x:Operand} {g k:Nat} (_:Tg k) (hx:a.eval x= .pointer (some ⟨g,k,none⟩)) {tb:TypeId} {cs:Array Value} (hb:HB w g tb cs) (ht:AL P t) {v:Value} (hv:Eg cs.toList k=some v):(execOp a.eval ⟨dst, .load t x,ty,pos,after,gd⟩).run P w= .ok (.value v) w:=Ai hx hb ht hv
end Go.Proofs.YtjjhceeookpieaaGreat
end
end
section
open Go Go.RowKit
namespace Go.Proofs.YtjjhceeookpieaaGreat
def gt {α:Type} [Af α] (l:List α) (k:Nat):α:=l.getD k Af.zero
theorem BD {α:Type} [Af α] (l:List α) (k:Nat) (h:k<l.length):gt l k∈l:=by
 simp[gt,List.getD_eq_getElem?_getD,h]
theorem Ms {α:Type} [Af α] (a:α) {n:Nat} (h:Af.size α=n):(Af.enc a).toArray.size =n:=by
 simp[Af.len,h]
theorem AY {α:Type} [Af α] (a:α):(Af.enc a).toArray.all (·.oneCell')=true:=by
 rw[Array.all_eq_true_iff_forall_mem];intro x hx;exact Af.one a x (by simpa using hx)
section
variable {P:Program} {ops:Array Oper} {rest:List Oper} {a:Act} {w:World} {Q:Exit→Act→World→Prop} {dst:Option Tmp} {ty:TypeId} {pos:String} {after:Array Edge} {gd:Option (Nat×Bool)}
theorem JX {α:Type} [Af α] {t:TypeId} {x ix:Operand} {A:Option Addr} {n c k:Nat} (hx:a.eval x= .slice A n c) (hi:a.eval ix= .int .i64 (k:Int)) {e:TypeId} {size bytes:Nat} {z:Value} (E:Bm P t e size bytes z)
    {l:List α} (hr:HR w A (cellsOf l)) (hl:l.length=n) (hs:Af.size α=size) (hp:0<size) (h1:k<n):
    (execOp a.eval ⟨dst, .indexAddr t x ix,ty,pos,after,gd⟩).run P w= .ok (.value (AN A (k*size))) w:=by
 obtain⟨ad,hA,_⟩:=hr.out.lt (by rw[AB,hs,hl];exact Nat.mul_pos (by omega) hp);obtain⟨ti,hti,hz,hsz,hb⟩:=info_parts E.out.info;show((Instr.indexAt t (a.eval x) (a.eval ix))>>=fun v=>pure (Next.value v)).run P w=_;rw[hx,hi,hA];simp[Instr.indexAt,asIntOf,run_underlying E.out.under,sizeOf,typeInfo,hti,hsz,h1,AN,DD]
theorem Wi {α:Type} [Af α] {t:TypeId} {x:Operand} {A:Option Addr} {n c:Nat} (hx:a.eval x= .slice A n c) {e:TypeId} {size bytes:Nat} {z:Value} (E:Bm P t e size bytes z)
    {l:List α} (hr:HR w A (cellsOf l)) (hl:l.length=n) (hs:Af.size α=size) (hp:0<size) (h1:0<n):
    (execOp a.eval ⟨dst, .indexAddr t x (.const (.int .i64 0)),ty,pos,after,gd⟩).run P w= .ok (.value (AN A (0*size))) w:=
 JX (k:=0) hx rfl E hr hl hs hp h1
theorem OP {α:Type} [Af α] {t:TypeId} {x:Operand} {A:Option Addr} {k n:Nat} (ht:Cl P t n) (hx:a.eval x=AN A (k*n)) {l:List α} (hr:HR w A (cellsOf l)) (hs:Af.size α=n) (hp:0<n) (hk:k<l.length):
    (execOp a.eval ⟨dst, .load t x,ty,pos,after,gd⟩).run P w= .ok (.value (.agg (Af.enc (gt l k)).toArray)) w:=by
 show((Instr.loadAt t (a.eval x))>>=fun v=>pure (Next.value v)).run P w=_;subst hs;rw[hx,Sem.run_bind,CU (k:=k*Af.size α) (cs:=Af.enc (gt l k)) hr.out ht (Af.len _) (Da l k hk) hp];rfl
theorem QU {t:TypeId} {x:Operand} {i:Nat} {A:Option Addr} {k:Nat} {fs:Array Field} {f:Field} (hu:P.underlying t=some (.struct fs)) (hf:fs[i]? =some f) (hz:(P.info? f.type).map (fun i=>decide (i.size=0))=some false) (hx:a.eval x=AN A k) {vs:List Value} (hr:HR w A vs) (hl:0<vs.length):
    (execOp a.eval ⟨dst, .fieldAddr t x i,ty,pos,after,gd⟩).run P w= .ok (.value (AN A (k+f.offset))) w:=by
 obtain⟨ad,rfl,_⟩:=hr.out.lt hl;show((Instr.fieldAt t (a.eval x) i)>>=fun v=>pure (Next.value v)).run P w=_;rw[hx];cases hq:P.info? f.type with
 |none=>rw[hq] at hz;simp at hz
 |some inf=>
  rw[hq] at hz;simp at hz;simp[Instr.fieldAt,run_underlying hu,hf,AN,DD,Instr.sureAddr,fieldPlace,sizeOf,typeInfo,hq,hz,Is]
theorem Cg {α:Type} [Af α] {t:TypeId} {x:Operand} {A:Option Addr} {k j s:Nat} (ht:AL P t) (hx:a.eval x=AN A (k*s+j)) {l:List α} (hr:HR w A (cellsOf l)) (hs:Af.size α=s) (hk:k<l.length) {v:Value} (hv:Eg (Af.enc (gt l k)) j=some v):
    (execOp a.eval ⟨dst, .load t x,ty,pos,after,gd⟩).run P w= .ok (.value v) w:=by
 subst hs;rw[←Bp] at hv;have hj:j<Af.size α:=by
  have:=(List.getElem?_eq_some_iff.1 hv).1;rwa[Af.len] at this
 have hat:=Da l k hk;have hv2:(cellsOf l)[k*Af.size α+j]? =some v:=by
  have h1:(((cellsOf l).drop (k*Af.size α)).take (Af.size α))[j]? =(Af.enc (gt l k))[j]? :=by rw[hat];rfl
  rw[List.getElem?_take,if_pos hj,List.getElem?_drop] at h1;rw[h1,hv]
 obtain⟨ad,rfl,hc⟩:=hr.out _ _ hv2;show((Instr.loadAt t (a.eval x))>>=fun v=>pure (Next.value v)).run P w=_;rw[hx];simp[AN,DD,Instr.loadAt,Instr.sureAddr,loadVar,ht.agg w,hc]
end
theorem QV {α:Type} [Af α] {l:List α} (hp:0<Af.size α) (h:0<l.length):0<(cellsOf l).length :=by
 rw[AB];exact Nat.mul_pos h hp
section
variable {P:Program} {ops:Array Oper} {rest:List Oper} {a:Act} {w:World} {Q:Exit→Act→World→Prop} {dst:Option Tmp} {ty:TypeId} {pos:String} {after:Array Edge}
theorem Wj {α:Type} [Af α] {t:TypeId} {x ix:Operand} {A:Option Addr} {n c k:Nat} (hx:a.eval x= .slice A n c) (hi:a.eval ix= .int .i64 (k:Int)) {e:TypeId} {size bytes:Nat} {z:Value} (E:Bm P t e size bytes z)
    {l:List α} (hr:HR w A (cellsOf l)) (hl:l.length=n) (hs:Af.size α=size) (hp:0<size) (h1:k<n)
    (h:wpList P ops Q rest (a.put dst (AN A (k*size))) w):wpList P ops Q (⟨dst, .indexAddr t x ix,ty,pos,after,none⟩::rest) a w:=Av rfl (JX hx hi E hr hl hs hp h1) h
theorem Ug {α:Type} [Af α] {t:TypeId} {x:Operand} {A:Option Addr} {n c:Nat} (hx:a.eval x= .slice A n c) {e:TypeId} {size bytes:Nat} {z:Value} (E:Bm P t e size bytes z)
    {l:List α} (hr:HR w A (cellsOf l)) (hl:l.length=n) (hs:Af.size α=size) (hp:0<size) (h1:0<n)
    (h:wpList P ops Q rest (a.put dst (AN A (0*size))) w):wpList P ops Q (⟨dst, .indexAddr t x (.const (.int .i64 0)),ty,pos,after,none⟩::rest) a w:=Av rfl (Wi hx E hr hl hs hp h1) h
theorem Zf {α:Type} [Af α] {t:TypeId} {x:Operand} {A:Option Addr} {k n:Nat} (ht:Cl P t n) (hx:a.eval x=AN A (k*n)) {l:List α} (hr:HR w A (cellsOf l)) (hs:Af.size α=n) (hp:0<n) (hk:k<l.length)
    (h:wpList P ops Q rest (a.put dst (.agg (Af.enc (gt l k)).toArray)) w):wpList P ops Q (⟨dst, .load t x,ty,pos,after,none⟩::rest) a w:=Av rfl (OP ht hx hr hs hp hk) h
theorem Wk {t:TypeId} {x:Operand} {i:Nat} {A:Option Addr} {k:Nat} {fs:Array Field} {f:Field} (hu:P.underlying t=some (.struct fs)) (hf:fs[i]? =some f) (hz:(P.info? f.type).map (fun i=>decide (i.size=0))=some false) (hx:a.eval x=AN A k) {vs:List Value} (hr:HR w A vs) (hl:0<vs.length)
    (h:wpList P ops Q rest (a.put dst (AN A (k+f.offset))) w):wpList P ops Q (⟨dst, .fieldAddr t x i,ty,pos,after,none⟩::rest) a w:=Av rfl (QU hu hf hz hx hr hl) h
theorem GD {α:Type} [Af α] {t:TypeId} {x:Operand} {A:Option Addr} {k j s:Nat} (ht:AL P t) (hx:a.eval x=AN A (k*s+j)) {l:List α} (hr:HR w A (cellsOf l)) (hs:Af.size α=s) (hk:k<l.length) {v:Value} (hv:Eg (Af.enc (gt l k)) j=some v)
    (h:wpList P ops Q rest (a.put dst v) w):wpList P ops Q (⟨dst, .load t x,ty,pos,after,none⟩::rest) a w:=Av rfl (Cg ht hx hr hs hk hv) h
end
end Go.Proofs.YtjjhceeookpieaaGreat
section
open Go Go.RowKit
namespace Go.Proofs.YtjjhceeookpieaaGreat
variable {P:Program} {ops:Array Oper} {rest:List Oper} {a:Act} {w:World} {Q:Exit→Act→World→Prop} {dst:Option Tmp} {ty:TypeId} {pos:String} {after:Array Edge} {gd:Option (Nat×Bool)}
theorem Wl {α:Type} (_:Tg α) [Af α] {t:TypeId} (_:Tg t) {x ix:Operand} {A:Option Addr} {n c k:Nat} (hx:a.eval x= .slice A n c) (hi:a.eval ix= .int .i64 (k:Int)) {e:TypeId} {size bytes:Nat} {z:Value} (E:Bm P t e size bytes z) {l:List α} (hr:HR w A (cellsOf l)) (hl:l.length=n) (hs:Af.size α=size) (hp:0<size) (h1:k<n):(execOp a.eval ⟨dst, .indexAddr t x ix,ty,pos,after,gd⟩).run P w= .ok (.value (AN A (k*size))) w:=JX hx hi E hr hl hs hp h1
theorem Uh {α:Type} (_:Tg α) [Af α] {t:TypeId} (_:Tg t) {x ix:Operand} {A:Option Addr} {n c k:Nat} (hx:a.eval x= .slice A n c) (hi:a.eval ix= .int .i64 (k:Int)) {e:TypeId} {size bytes:Nat} {z:Value} (E:Bm P t e size bytes z) {l:List α} (hr:HR w A (cellsOf l)) (hl:l.length=n) (hs:Af.size α=size) (hp:0<size) (h1:k<n) (h:wpList P ops Q rest (a.put dst (AN A (k*size))) w):wpList P ops Q (⟨dst, .indexAddr t x ix,ty,pos,after,none⟩::rest) a w:=Wj hx hi E hr hl hs hp h1 h
theorem Zg {α:Type} (_:Tg α) [Af α] {t:TypeId} (_:Tg t) {x:Operand} {A:Option Addr} {k n:Nat} (ht:Cl P t n) (hx:a.eval x=AN A (k*n)) {l:List α} (hr:HR w A (cellsOf l)) (hs:Af.size α=n) (hp:0<n) (hk:k<l.length):(execOp a.eval ⟨dst, .load t x,ty,pos,after,gd⟩).run P w= .ok (.value (.agg (Af.enc (gt l k)).toArray)) w:=OP ht hx hr hs hp hk
theorem Wm {α:Type} (_:Tg α) [Af α] {t:TypeId} (_:Tg t) {x:Operand} {A:Option Addr} {k n:Nat} (ht:Cl P t n) (hx:a.eval x=AN A (k*n)) {l:List α} (hr:HR w A (cellsOf l)) (hs:Af.size α=n) (hp:0<n) (hk:k<l.length) (h:wpList P ops Q rest (a.put dst (.agg (Af.enc (gt l k)).toArray)) w):wpList P ops Q (⟨dst, .load t x,ty,pos,after,none⟩::rest) a w:=Zf ht hx hr hs hp hk h
theorem Wn {t:TypeId} (_:Tg t) {x:Operand} {i:Nat} {A:Option Addr} {k:Nat} {fs:Array Field} {f:Field} (hu:P.underlying t=some (.struct fs)) (hf:fs[i]? =some f) (hz:(P.info? f.type).map (fun i=>decide (i.size=0))=some false) (hx:a.eval x=AN A k) {vs:List Value} (hr:HR w A vs) (hl:0<vs.length):(execOp a.eval ⟨dst, .fieldAddr t x i,ty,pos,after,gd⟩).run P w= .ok (.value (AN A (k+f.offset))) w:=QU hu hf hz hx hr hl
theorem Zh {α:Type} (_:Tg α) [Af α] {t:TypeId} {x:Operand} {A:Option Addr} {k j s:Nat} (_:Tg k) (_:Tg j) (_:Tg s) (ht:AL P t) (hx:a.eval x=AN A (k*s+j)) {l:List α} (hr:HR w A (cellsOf l)) (hs:Af.size α=s) (hk:k<l.length) {v:Value} (hv:Eg (Af.enc (gt l k)) j=some v):(execOp a.eval ⟨dst, .load t x,ty,pos,after,gd⟩).run P w= .ok (.value v) w:=Cg ht hx hr hs hk hv
theorem OQ {α:Type} (_:Tg α) [Af α] {t:TypeId} {x:Operand} {A:Option Addr} {k j s:Nat} (_:Tg k) (_:Tg j) (_:Tg s) (ht:AL P t) (hx:a.eval x=AN A (k*s+j)) {l:List α} (hr:HR w A (cellsOf l)) (hs:Af.size α=s) (hk:k<l.length) {v:Value} (hv:Eg (Af.enc (gt l k)) j=some v) (h:wpList P ops Q rest (a.put dst v) w):wpList P ops Q (⟨dst, .load t x,ty,pos,after,none⟩::rest) a w:=GD ht hx hr hs hk hv h
end Go.Proofs.YtjjhceeookpieaaGreat
end
end
