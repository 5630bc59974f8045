/- UhMkA, UhMkB, UhMkC, UhMkU -/
import Derived.Test.YtjjhceeookpieaaGreatUhEq
import Derived.Test.YtjjhceeookpieaaGreatUhDgB
import Derived.Test.YtjjhceeookpieaaGreatUhMkH
import Derived.Test.YtjjhceeookpieaaGreatUhZ
import Derived.Test.YtjjhceeookpieaaGreatUhBase
section
open Go Go.RowKit
namespace Go.Proofs.YtjjhceeookpieaaGreat
def Hd (a b:Ak):Ak:=⟨Ho a.l b.l,KJ a.l b.l⟩
def Nb:Nat→List Ak→Ak
 |0,_=>Aq
 |_+1,[]=>Aq
 |_+1,[a]=>a
 |f+1,a::b::l=>Hd (Nb f ((a::b::l).take (AS (l.length+2)))) (Nb f ((a::b::l).drop (AS (l.length+2))))
theorem Mj (f:Nat) (l:List Ak) (h:2≤l.length):Nb (f+1) l=Hd (Nb f (l.take (AS l.length))) (Nb f (l.drop (AS l.length))):=by
 rcases l with _|⟨a,_|⟨b,l⟩⟩
 ·simp at h
 ·simp at h
 rfl
theorem IB: ∀(f g:Nat) (l:List Ak),l.length≤f→l.length≤g→Nb f l=Nb g l
 |0,g,l,h,_=>by
  obtain rfl:l=[]:=List.eq_nil_of_length_eq_zero (by omega);cases g<;>rfl
 |f+1,0,l,_,h=>by
  obtain rfl:l=[]:=List.eq_nil_of_length_eq_zero (by omega);rfl
 |f+1,g+1,l,h1,h2=>by
  rcases l with _|⟨a,_|⟨b,l⟩⟩
  ·rfl
  ·rfl
  have hl:2≤(a::b::l).length :=by simp
  have hh:=Eu _ hl;rw[Mj f _ hl,Mj g _ hl];generalize(a::b::l)=l at*;rw[IB f g (l.take (AS l.length)) (by rw[List.length_take];omega) (by rw[List.length_take];omega),
   IB f g (l.drop (AS l.length)) (by rw[List.length_drop];omega) (by rw[List.length_drop];omega)]
def DM (l:List Ak):Ak:=Nb l.length l
theorem QC (l:List Ak) (h:2≤l.length):DM l=Hd (DM (l.take (AS l.length))) (DM (l.drop (AS l.length))):=by
 have hh:=Eu _ h;unfold DM;obtain⟨f,hf⟩: ∃f,l.length=f+1:=⟨l.length -1,by omega⟩
 conv=>lhs;rw[hf,Mj f l h]
 rw[IB f (l.take (AS l.length)).length _ (by rw[List.length_take];omega) (Nat.le_refl _),IB f (l.drop (AS l.length)).length _ (by rw[List.length_drop];omega) (Nat.le_refl _)]
def GI:Nat→List Ak→Nat→List Ak
 |0,_,_=>[]
 |f+1,l,i=>if l.length<2 then[] else
     if i<AS l.length then GI f (l.take (AS l.length)) i++[DM (l.drop (AS l.length))]
     else GI f (l.drop (AS l.length)) (i -AS l.length)++[DM (l.take (AS l.length))]
theorem He (f:Nat) (l:List Ak) (i:Nat) (h:l.length<2):GI f l i=[]:=by
 cases f with
 |zero=>rfl
 |succ f=>rw[GI,if_pos h]
theorem IC: ∀(f g:Nat) (l:List Ak) (i:Nat),l.length≤f→l.length≤g→GI f l i=GI g l i
 |0,0,l,i,_,_=>rfl
 |0,g+1,l,i,h,_=>by rw[He _ _ _ (by omega),He _ _ _ (by omega)]
 |f+1,0,l,i,_,h=>by rw[He _ _ _ (by omega),He _ _ _ (by omega)]
 |f+1,g+1,l,i,h1,h2=>by
  rw[GI,GI];by_cases hl:l.length<2
  ·rw[if_pos hl,if_pos hl]
  have hh:=Eu l.length (by omega);rw[if_neg hl,if_neg hl,IC f g (l.take (AS l.length)) i (by rw[List.length_take];omega) (by rw[List.length_take];omega),
   IC f g (l.drop (AS l.length)) (i -AS l.length) (by rw[List.length_drop];omega) (by rw[List.length_drop];omega)]
def DN (l:List Ak) (i:Nat):List Ak:=GI l.length l i
theorem Nc (l:List Ak) (i:Nat) (h:l.length<2):DN l i=[]:=by
 unfold DN;rcases hl:l.length with _|n
 ·rfl
 rw[GI,if_pos h]
theorem TK (l:List Ak) (i:Nat) (h:2≤l.length) (hi:i<AS l.length):DN l i=DN (l.take (AS l.length)) i++[DM (l.drop (AS l.length))]:=by
 have hh:=Eu _ h;unfold DN;obtain⟨f,hf⟩: ∃f,l.length=f+1:=⟨l.length -1,by omega⟩
 conv=>lhs;rw[hf,GI,if_neg (by omega),if_pos hi]
 rw[IC f (l.take (AS l.length)).length _ _ (by rw[List.length_take];omega) (Nat.le_refl _)]
theorem TL (l:List Ak) (i:Nat) (h:2≤l.length) (hi: ¬i<AS l.length):DN l i=DN (l.drop (AS l.length)) (i -AS l.length)++[DM (l.take (AS l.length))]:=by
 have hh:=Eu _ h;unfold DN;obtain⟨f,hf⟩: ∃f,l.length=f+1:=⟨l.length -1,by omega⟩
 conv=>lhs;rw[hf,GI,if_neg (by omega),if_neg hi]
 rw[IC f (l.drop (AS l.length)).length _ _ (by rw[List.length_drop];omega) (Nat.le_refl _)]
theorem Mk: ∀(f:Nat) (l:List Ak) (i:Nat),(GI f l i).length ≤f
 |0,l,i=>by simp[GI]
 |f+1,l,i=>by
  rw[GI];split
  ·simp
  split
  ·rw[List.length_append,List.length_singleton];have:=Mk f (l.take (AS l.length)) i;omega
  rw[List.length_append,List.length_singleton];have:=Mk f (l.drop (AS l.length)) (i -AS l.length);omega
theorem Ml (l:List Ak) (i:Nat):(DN l i).length ≤l.length:=Mk _ _ _
def Ps:Ak→Nat→List Ak→Ak
 |h,_,[]=>h
 |h,i,o::l=>Ps (if i%2=0 then Hd h o else Hd o h) (i/2) l
theorem Ahv (a b:Ak) (w:World):Calls Tryz.prog 166 #[.agg (Aw a.l), .agg (Aw b.l)] w fun e w'=>e= .returned (.agg (Aw (Hd a b).l))∧Ag Ab w w':=
 (VK a.l b.l w a.len b.len).mono fun _ _ ⟨h1,h2⟩=>⟨h1,⟨h2.out⟩⟩
theorem Aaj (a b:Ak) (w:World):Calls Tryz.prog 158 #[.agg (Aw a.l), .agg (Aw b.l)] w fun e w'=>e= .returned (.agg (Aw (Hd a b).l))∧Ag Ab w w':=
 (PG a.l b.l w a.len b.len).mono fun _ _ ⟨h1,h2⟩=>⟨h1,⟨h2.out⟩⟩
end Go.Proofs.YtjjhceeookpieaaGreat
end
section
set_option maxRecDepth 100000
set_option maxHeartbeats 1600000
open Go Go.RowKit
namespace Go.Proofs.YtjjhceeookpieaaGreat
def Jc (l:List Ak) (f t:Nat):List Ak:=(l.take t).drop f
theorem JR (l:List Ak) (f t:Nat) (h:t≤l.length):(Jc l f t).length =t -f:=by simp[Jc];omega
theorem Lt (l:List Ak) (f t j:Nat):(Jc l f t)[j]? =if f+j<t then l[f+j]? else none:=by
 simp only[Jc,List.getElem?_drop,List.getElem?_take]
theorem Oi (l:List Ak) (f m t:Nat) (h1:f≤m) (h2:m≤t):(Jc l f t).take (m -f)=Jc l f m:=by
 apply List.ext_getElem?;intro j;rw[List.getElem?_take,Lt,Lt];by_cases hj:f+j<m
 ·rw[if_pos (by omega),if_pos (by omega),if_pos hj]
 rw[if_neg (by omega),if_neg hj]
theorem Oj (l:List Ak) (f m t:Nat) (h1:f≤m):(Jc l f t).drop (m -f)=Jc l m t:=by
 apply List.ext_getElem?;intro j;rw[List.getElem?_drop,Lt,Lt,show f+(m -f+j)=m+j by omega]
theorem Adw (l:List Ak) (f:Nat) (h:f<l.length):Jc l f (f+1)=[AG l f]:=by
 apply List.ext_getElem?;intro j;rw[Lt];rcases j with _|j
 ·rw[if_pos (by omega)];simp[AG,List.getD_eq_getElem?_getD,h]
 rw[if_neg (by omega)];simp
theorem WX (l:List Ak):Jc l 0 l.length=l:=by simp[Jc]
theorem VH (l:List Ak) (f t:Nat) (h:f+2≤t) (ht:t≤l.length):DM (Jc l f t)=Hd (DM (Jc l f (f+AS (t -f)))) (DM (Jc l (f+AS (t -f)) t)):=by
 have hh:=Eu (t -f) (by omega);have hl:=JR l f t ht;rw[QC _ (by omega),hl];have e1:=Oi l f (f+AS (t -f)) t (by omega) (by omega);have e2:=Oj l f (f+AS (t -f)) t (by omega);rw[show f+AS (t -f) -f=AS (t -f) by omega] at e1 e2;rw[e1,e2]
theorem KH: ∀(d:Nat) (A:Option Addr) (n c:Nat) (l:List Ak) (w:World) (_:HR w A (cellsOf l)) (f t:Nat),t -f=d→f<t→t≤n→l.length=n→n≤1000→
    Calls Tryz.prog 97 #[.slice A n c, .int .i64 (f:Int), .int .i64 (t:Int)] w fun e w'=>e= .returned (.agg (Aw (DM (Jc l f t)).l))∧Ag Ab w w':=by
 intro d
 induction d using Nat.strongRecOn with
 |_ d ih=>
  intro A n c l w hr f t hd hft htn hl hn;have HIH:=Lib.hid ih;clear ih;by_cases h1:t -f=1
  ·have ht1:t=f+1:=by omega
   have hs:DM (Jc l f t)=AG l f:=by rw[ht1,Adw l f (by omega)];rfl
   have hb:((t:Int) -f==1)=true:=by simp;omega
   have hfl:f<l.length:=by omega
   have hfn:f<n:=by omega
   have HS:=Lib.hid hs;clear ht1 hs h1 hd;go_enter Tryz.func97,Tryz.ntmps97;go_wp2_with (first|(refine BB 6 ?_;intro zo wzo _ _ _)|(refine Bt ?_;intro ws _ _)|(refine WIH ?_)|(refine WLH 23 ?_));refine Bo rfl rfl (n:=32) (Ak.size _) rfl ⟨?_,Aa⟩;rw[HS.out]
  have hb:((t:Int) -f==1)=false:=by simp;omega
  have hh:=Eu (t -f) (by omega);have hs:=VH l f t (by omega) (by omega);obtain⟨M,hM⟩: ∃M,M=f+AS (t -f):=⟨_,rfl⟩;have hM1:f<M∧M<t:=by omega
  obtain⟨hM1,hM2⟩:=hM1;rw[←hM] at hs;obtain⟨R1,hR1⟩: ∃x,x=DM (Jc l f M):=⟨_,rfl⟩;obtain⟨R2,hR2⟩: ∃x,x=DM (Jc l M t):=⟨_,rfl⟩;have HS:=Lib.hid hs;have HM:=Lib.hid hM;have HR1:=Lib.hid hR1;have HR2:=Lib.hid hR2;have hdm1:M -f<d:=by omega
  have hdm2:t -M<d:=by omega
  have hf2:f+2≤t:=by omega
  clear hs hM h1 hd hh hR1 hR2;go_enter Tryz.func97,Tryz.ntmps97;go_wp2_with (first|(refine BB 6 ?_;intro zo wzo _ _ _));refine(ID f t _ hf2 (by omega)).mono ?_;rw[←HM.out];rintro e w1 ⟨rfl,_⟩;go_wp2_with fail;refine(HIH.out (M -f) hdm1 A n c l _ inferInstance f M rfl hM1 (by omega) hl hn).mono ?_;rw[←HR1.out];rintro e w2 ⟨rfl,_⟩;go_wp2_with fail;refine(HIH.out (t -M) hdm2 A n c l _ inferInstance M t rfl hM2 htn hl hn).mono ?_;rw[←HR2.out];rintro e w3 ⟨rfl,_⟩;go_wp2_with fail;refine(Ahv R1 R2 _).mono ?_;rintro e w4 ⟨rfl,_⟩;go_wp2_with (first|(refine Bt ?_;intro ws _ _));refine Bo rfl rfl (n:=32) (Ak.size _) rfl ⟨?_,Aa⟩;rw[HS.out,HR1.out,HR2.out]
theorem Ahw {A:Option Addr} {n c:Nat} {l:List Ak} {w:World} [hr:HR w A (cellsOf l)] (hl:l.length=n) (hn:n≤1000):
    Calls Tryz.prog 50 #[.slice A n c] w fun e w'=>e= .returned (.agg (Aw (DM l).l))∧Ag Ab w w':=by
 by_cases h0:n=0
 ·have hz:l=[]:=List.eq_nil_of_length_eq_zero (by omega);have hs:DM l=Aq:=by rw[hz];rfl
  have kb0: ∀w,(Instr.build 23 #[]).run Tryz.prog w= .ok (.agg (Aw Aq.l)) w:=fun _=>by kernel_rfl
  have hb:((n:Int)==0)=true:=by simp;omega
  rw[hs];clear h0 hz;go_enter Tryz.func50,Tryz.ntmps50;go_wp2_with (first|(refine Ji (kb0 _) ?_)|(refine BB 2 ?_;intro zo wzo _ _ _)|(refine Bt ?_;intro ws _ _));exact Bo rfl rfl (n:=32) (Ak.size Aq) rfl ⟨rfl,Aa⟩
 have hb:((n:Int)==0)=false:=by simp;omega
 have HL:=Lib.hid hl;obtain⟨R,hR⟩: ∃x,x=DM (Jc l 0 n):=⟨_,rfl⟩;have e:DM l=R:=by rw[hR,←hl,WX]
 have HR':=Lib.hid hR;rw[e];clear hR e;go_enter Tryz.func50,Tryz.ntmps50;go_wp2_with (first|(refine BB 2 ?_;intro zo wzo _ _ _));refine(KH n A n c l _ inferInstance 0 n (by omega) (by omega) (Nat.le_refl _) HL.out hn).mono ?_;rw[←HR'.out];rintro e w2 ⟨rfl,_⟩;go_wp2_with (first|(refine Bt ?_;intro ws _ _));exact Bo rfl rfl (n:=32) (Ak.size _) rfl ⟨rfl,Aa⟩
end Go.Proofs.YtjjhceeookpieaaGreat
end
section
set_option maxRecDepth 100000
set_option maxHeartbeats 1600000
open Go Go.RowKit
namespace Go.Proofs.YtjjhceeookpieaaGreat
theorem Adx (l:List Ak) (f t i:Nat) (h:f+2≤t) (ht:t≤l.length) (hi:i<f+AS (t -f)) (hf:f≤i):DN (Jc l f t) (i -f)=DN (Jc l f (f+AS (t -f))) (i -f)++[DM (Jc l (f+AS (t -f)) t)]:=by
 have hh:=Eu (t -f) (by omega);have hl:=JR l f t ht;rw[TK _ _ (by omega) (by rw[hl];omega),hl];have e1:=Oi l f (f+AS (t -f)) t (by omega) (by omega);have e2:=Oj l f (f+AS (t -f)) t (by omega);rw[show f+AS (t -f) -f=AS (t -f) by omega] at e1 e2;rw[e1,e2]
theorem Ady (l:List Ak) (f t i:Nat) (h:f+2≤t) (ht:t≤l.length) (hi:f+AS (t -f)≤i):DN (Jc l f t) (i -f)=DN (Jc l (f+AS (t -f)) t) (i -(f+AS (t -f)))++[DM (Jc l f (f+AS (t -f)))]:=by
 have hh:=Eu (t -f) (by omega);have hl:=JR l f t ht;rw[TL _ _ (by omega) (by rw[hl];omega),hl];have e1:=Oi l f (f+AS (t -f)) t (by omega) (by omega);have e2:=Oj l f (f+AS (t -f)) t (by omega);rw[show f+AS (t -f) -f=AS (t -f) by omega] at e1 e2;rw[e1,e2,show i -f -AS (t -f)=i -(f+AS (t -f)) by omega]
theorem VI: ∀(d:Nat) (A:Option Addr) (n c:Nat) (l:List Ak) (w:World) (_:HR w A (cellsOf l)) (f t i:Nat),t -f=d→f<t→t≤n→l.length=n→n≤1000→f≤i→i<t→
    Calls Tryz.prog 106 #[.slice A n c, .int .i64 (f:Int), .int .i64 (t:Int), .int .i64 (i:Int)] w fun e w'=>∃A' c',e= .returned (.slice A' (DN (Jc l f t) (i -f)).length c')∧Ag Ab w w'∧Aj w A'∧HO w' 23 32 A' (DN (Jc l f t) (i -f)).length c' (cellsOf (DN (Jc l f t) (i -f))):=by
 intro d
 induction d using Nat.strongRecOn with
 |_ d ih=>
  intro A n c l w hr f t i hd hft htn hl hn hfi hit;have HIH:=Lib.hid ih;clear ih;obtain⟨P,hP⟩: ∃P,P=DN (Jc l f t) (i -f):=⟨_,rfl⟩;rw[←hP];by_cases h1:t -f=1
  ·have hs:P=[]:=by rw[hP];exact Nc _ _ (by rw[JR l f t (by omega)];omega)
   have hb:((t:Int) -f==1)=true:=by simp;omega
   rw[hs];clear hs h1 hd hP;go_enter Tryz.func106,Tryz.ntmps106;go_wp2_with fail;go_ret;exact⟨none,0,rfl,Aa,Aj.of_none _,⟨Cm.nil _ _ _⟩⟩
  have hb:((t:Int) -f==1)=false:=by simp;omega
  have hh:=Eu (t -f) (by omega);obtain⟨M,hM⟩: ∃M,M=f+AS (t -f):=⟨_,rfl⟩;have hM1:f<M∧M<t:=by omega
  obtain⟨hM1,hM2⟩:=hM1;have HM:=Lib.hid hM;have hdm1:M -f<d:=by omega
  have hdm2:t -M<d:=by omega
  have hf2:f+2≤t:=by omega
  by_cases him:i<M
  ·have himI:(i:Int)<M:=by omega
   have hs:=Adx l f t i hf2 (by omega) (by omega) hfi;rw[←hM,←hP] at hs;obtain⟨P1,hP1⟩: ∃x,x=DN (Jc l f M) (i -f):=⟨_,rfl⟩;obtain⟨R2,hR2⟩: ∃x,x=DM (Jc l M t):=⟨_,rfl⟩;have hlen:P1.length≤1000:=by have:=Ml (Jc l f M) (i -f);rw[hP1,];rw[JR l f M (by omega)] at this;omega
   rw[←hP1,←hR2] at hs;have HP1:=Lib.hid hP1;have HR2:=Lib.hid hR2;have kb:=LR R2;rw[hs];clear hs hM h1 hd hh hP1 hR2 hP;go_enter Tryz.func106,Tryz.ntmps106;go_wp2_with fail;refine(ID f t _ hf2 (by omega)).mono ?_;rw[←HM.out];rintro e w1 ⟨rfl,_⟩;go_wp2_with fail;refine(HIH.out (M -f) hdm1 A n c l _ inferInstance f M i rfl hM1 (by omega) hl hn hfi him).mono ?_;rw[←HP1.out];rintro e w2 ⟨A1,c1,rfl,_,hnA,_⟩;have _:Aj w A1:=Aj.mono hnA;go_wp2_with fail;refine(KH (t -M) A n c l _ inferInstance M t rfl hM2 htn hl hn).mono ?_;rw[←HR2.out];rintro e w3 ⟨rfl,_⟩;go_wp2_with (first|(refine WBs (kb _) ?_;intro zb wb _ _ _)|(refine XF ?_;intro A' c' wa _ _ _ hcap));go_ret;rw[show(P1++[R2]).length =P1.length+1 by simp];exact⟨_,_,rfl,Aa,inferInstance,inferInstance⟩
  have himI: ¬(i:Int)<M:=by omega
  have hs:=Ady l f t i hf2 (by omega) (by omega);rw[←hM,←hP] at hs;obtain⟨P1,hP1⟩: ∃x,x=DN (Jc l M t) (i -M):=⟨_,rfl⟩;obtain⟨R2,hR2⟩: ∃x,x=DM (Jc l f M):=⟨_,rfl⟩;have hlen:P1.length≤1000:=by have:=Ml (Jc l M t) (i -M);rw[hP1,];rw[JR l M t (by omega)] at this;omega
  rw[←hP1,←hR2] at hs;have HP1:=Lib.hid hP1;have HR2:=Lib.hid hR2;have kb:=LR R2;have hMi:M≤i:=by omega
  rw[hs];clear hs hM h1 hd hh hP1 hR2 hP him;go_enter Tryz.func106,Tryz.ntmps106;go_wp2_with fail;refine(ID f t _ hf2 (by omega)).mono ?_;rw[←HM.out];rintro e w1 ⟨rfl,_⟩;go_wp2_with fail;refine(HIH.out (t -M) hdm2 A n c l _ inferInstance M t i rfl hM2 htn hl hn hMi hit).mono ?_;rw[←HP1.out];rintro e w2 ⟨A1,c1,rfl,_,hnA,_⟩;have _:Aj w A1:=Aj.mono hnA;go_wp2_with fail;refine(KH (M -f) A n c l _ inferInstance f M rfl hM1 (by omega) hl hn).mono ?_;rw[←HR2.out];rintro e w3 ⟨rfl,_⟩;go_wp2_with (first|(refine WBs (kb _) ?_;intro zb wb _ _ _)|(refine XF ?_;intro A' c' wa _ _ _ hcap));go_ret;rw[show(P1++[R2]).length =P1.length+1 by simp];exact⟨_,_,rfl,Aa,inferInstance,inferInstance⟩
def EN (l:List Ak) (i:Int):List Ak:=if i<0∨(l.length:Int)≤i then[] else DN l i.toNat
theorem Yv (l:List Ak) (i:Int):(EN l i).length ≤l.length:=by
 unfold EN;split
 ·simp
 exact Ml _ _
theorem WY {A:Option Addr} {n c:Nat} {l:List Ak} {w:World} [hr:HR w A (cellsOf l)] (i:Int) (hl:l.length=n) (hn:n≤1000):
    Calls Tryz.prog 57 #[.slice A n c, .int .i64 i] w fun e w'=>∃A' c',e= .returned (.slice A' (EN l i).length c')∧Ag Ab w w'∧Aj w A'∧HO w' 23 32 A' (EN l i).length c' (cellsOf (EN l i)):=by
 by_cases h0:i<0
 ·have hs:EN l i=[]:=if_pos (.inl h0);rw[hs];clear hs;go_enter Tryz.func57,Tryz.ntmps57;go_wp2_with fail;go_ret;exact⟨none,0,rfl,Aa,Aj.of_none _,⟨Cm.nil _ _ _⟩⟩
 by_cases h1:(n:Int)≤i
 ·have hs:EN l i=[]:=if_pos (.inr (by omega));rw[hs];clear hs;go_enter Tryz.func57,Tryz.ntmps57;go_wp2_with fail;go_ret;exact⟨none,0,rfl,Aa,Aj.of_none _,⟨Cm.nil _ _ _⟩⟩
 obtain⟨j,hj⟩: ∃j:Nat,i=(j:Int):=⟨i.toNat,by omega⟩;subst hj;have hjn:j<n:=by omega
 have hs:EN l (j:Int)=DN (Jc l 0 n) (j -0):=by rw[EN,if_neg (by omega),←hl,WX];rfl
 obtain⟨P,hP⟩: ∃P,P=DN (Jc l 0 n) (j -0):=⟨_,rfl⟩;have HP:=Lib.hid hP;rw[hs,←hP];clear hs hP;go_enter Tryz.func57,Tryz.ntmps57;go_wp2_with fail;refine(VI n A n c l _ inferInstance 0 n j (by omega) (by omega) (Nat.le_refl _) hl hn (by omega) hjn).mono ?_;rw[←HP.out];rintro e w2 ⟨A1,c1,rfl,_,hnA,_⟩;have _:Aj w A1:=Aj.mono hnA;go_wp2_with fail;go_ret;exact⟨A1,c1,rfl,Aa,inferInstance,inferInstance⟩
end Go.Proofs.YtjjhceeookpieaaGreat
end
section
set_option maxRecDepth 100000
set_option maxHeartbeats 1600000
open Go Go.RowKit
namespace Go.Proofs.YtjjhceeookpieaaGreat
theorem Aam (h:Ak) (i:Nat) (l:List Ak) (k:Nat) (hk:k<l.length):Ps h i (l.drop k)=Ps (if i%2=0 then Hd h (AG l k) else Hd (AG l k) h) (i/2) (l.drop (k+1)):=by
 rw[List.drop_eq_getElem_cons hk,Ps]
 congr 1
 simp[AG,List.getD_eq_getElem?_getD,hk]
theorem TM (a:Int):bits .and .i64 a 1=a%2:=by
 show IntKind.i64.wrap ((BitVec.ofInt 64 a&&&BitVec.ofInt 64 1).toNat :Int)=_;have h1:(BitVec.ofInt 64 1).toNat =2^1 -1:=by decide
 rw[BitVec.toNat_and,h1,Nat.and_two_pow_sub_one_eq_mod,BitVec.toNat_ofInt,IntKind.wrap_i64];omega
theorem Alb {A:Option Addr} {n c:Nat} {l:List Ak} (leaf:Ak) (i:Nat) {w:World} [hr:HR w A (cellsOf l)] (hl:l.length=n) (hn:n≤1000) (hi:i≤9223372036854775807):
    Calls Tryz.prog 231 #[.agg (Aw leaf.l), .int .i64 (i:Int), .slice A n c] w fun e w'=>e= .returned (.agg (Aw (Ps leaf i l).l))∧Ag Ab w w':=by
 obtain⟨R,hR⟩: ∃R,R=Ps leaf i l:=⟨_,rfl⟩;have HL:=Lib.hid hl;have HR0:Hid (Ps leaf i (l.drop 0)=R):=Lib.hid (by rw[hR];rfl);rw[←hR];clear hR;go_enter Tryz.func231,Tryz.ntmps231;go_wp2_with (first|(refine Bv 3 ?_;intro zl wzl _ _ _)|(refine BB 6 ?_;intro zo wzo _ _ _));go_loopw [1,7] (fun iv kv wr=>∃(k j:Nat) (h:Ak),k≤n∧kv= .int .i64 (k:Int)∧iv= .int .i64 (j:Int)∧j≤9223372036854775807∧Hid (Ps h j (l.drop k)=R)∧Ag Ab w wr∧HB wr zo 23 (Aw Aq.l)∧HB wr zl 23 (Aw h.l)) (fun _ kv _=>n -(intOf kv).toNat)
 case atStart=>exact⟨0,i,leaf,Nat.zero_le _,rfl,rfl,hi,HR0,Aa,inferInstance,inferInstance⟩
 case round=>
  obtain⟨k,j,h,hk,rfl,rfl,hj,HU,_,_,_⟩:=hrel;by_cases hlt:k<n
  ·have hkl:k<l.length:=by have:=HL.out;omega
   have hltI:(k:Int)<n:=by omega
   have hup:=Aam h j l k hkl;by_cases hp:j%2=0
   ·have hb:(bits BinOp.and IntKind.i64 (j:Int) 1==0)=true:=by rw[TM];simp;omega
    rw[if_pos hp] at hup;have HUP:=Lib.hid hup;clear hup hp;go_wp2_with fail;refine Ah ((only zl)) (by kernel_rfl) (fun wd _ _=> ?_);refine YS 1 ?_;refine YS 2 ?_;refine Vj 3 ?_;refine Vk 4 23 ?_;refine Yh 0 fun K_ hK_=> ?_
    (first|(refine Cp ?_)|(refine WLI 3 ?_)|(refine WLB 5 ?_)|((with_reducible apply EE);exact rfl;infer_instance;exact rfl)|(refine WLH 23 ?_))
    refine Yn hK_ ?_;clear hK_ K_;refine Yg 5 fun K_ hK_=> ?_
    go_simp;refine(Aaj h (AG l k) _).mono ?_;rintro e w4 ⟨rfl,_⟩;refine Yz hK_ ?_;clear hK_ K_;refine Yh 6 fun K_ hK_=> ?_
    (first|(refine Bt ?_;intro ws _ _)|(refine ZD 3 ?_;intro ws _ _)|(refine WSX 5 ?_;intro ws _ _)|(refine KZ ?_;intro ws _ _)|(refine WSH 23 ?_;intro ws _ _))
    refine Ym hK_ ?_;clear hK_ K_;refine Yd ?_;go_wp2_with fail;refine⟨⟨k+1,j/2,Hd h (AG l k),by omega,by go_num, ?_,by omega,Lib.hid (by rw[←HUP.out];exact HU.out),Aa,inferInstance,inferInstance⟩,by simp[intOf];omega⟩;simp
   have hb:(bits BinOp.and IntKind.i64 (j:Int) 1==0)=false:=by rw[TM];simp;omega
   rw[if_neg hp] at hup;have HUP:=Lib.hid hup;clear hup hp;go_wp2_with fail;refine Ah ((only zl)) (by kernel_rfl) (fun wd _ _=> ?_);refine YS 0 ?_;refine YS 1 ?_;refine Vj 2 ?_;refine Vk 3 23 ?_;refine Yh 4 fun K_ hK_=> ?_
   (first|(refine Cp ?_)|(refine WLI 3 ?_)|(refine WLB 5 ?_)|((with_reducible apply EE);exact rfl;infer_instance;exact rfl)|(refine WLH 23 ?_))
   refine Yn hK_ ?_;clear hK_ K_;refine Yg 5 fun K_ hK_=> ?_
   go_simp;refine(Aaj (AG l k) h _).mono ?_;rintro e w4 ⟨rfl,_⟩;refine Yz hK_ ?_;clear hK_ K_;refine Yh 6 fun K_ hK_=> ?_
   (first|(refine Bt ?_;intro ws _ _)|(refine ZD 3 ?_;intro ws _ _)|(refine WSX 5 ?_;intro ws _ _)|(refine KZ ?_;intro ws _ _)|(refine WSH 23 ?_;intro ws _ _))
   refine Ym hK_ ?_;clear hK_ K_;refine Yd ?_;go_wp2_with fail;refine⟨⟨k+1,j/2,Hd (AG l k) h,by omega,by go_num, ?_,by omega,Lib.hid (by rw[←HUP.out];exact HU.out),Aa,inferInstance,inferInstance⟩,by simp[intOf];omega⟩;simp
  have hge:n≤k:=by omega
  have hR:h=R:=by
   have:=HU.out;rw[List.drop_of_length_le (by have:=HL.out;omega)] at this;exact this
  have HRR:=Lib.hid hR;clear hR;go_wp2_with (first|(refine Cp ?_)|(refine Bt ?_;intro ws _ _));refine Bo rfl rfl (n:=32) (Ak.size _) rfl ⟨?_,Aa⟩;rw[HRR.out]
end Go.Proofs.YtjjhceeookpieaaGreat
end
