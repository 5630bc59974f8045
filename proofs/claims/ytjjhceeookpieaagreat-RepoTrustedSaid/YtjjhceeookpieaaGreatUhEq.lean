/- UhEq, UhHashes, UhOtKm -/
import Derived.Test.YtjjhceeookpieaaGreatUhTy
import Derived.Stop.BytesEq
import Derived.Test.YtjjhceeookpieaaGreatUhOtD
section
open Go Go.RowKit
namespace Go.Proofs.YtjjhceeookpieaaGreat
instance An8:DecidableEq Ak:=fun a b=>decidable_of_iff (a.l=b.l) ⟨Ak.ext',congrArg _⟩
theorem Tt (a b:Ak):(a.l==b.l)=decide (a=b):=by
 rw[Bool.eq_iff_iff];simp only[beq_iff_eq,decide_eq_true_eq];exact⟨Ak.ext',fun h=>by rw[h]⟩
theorem Adj (a b:Ak) (w:World):(binOp .eql 23 (.agg (Aw a.l)) (.agg (Aw b.l))).run Tryz.prog w= .ok (.bool (decide (a=b))) w:=by
 rw[←Tt];exact run_eql_bytes (P:=Tryz.prog) w 23 5 32 Tryz.underlying23 Tryz.underlying5 Tryz.sizeOf5 a.l b.l a.len b.len
theorem Al2 (a b:Ak) (w:World):(binOp .neq 23 (.agg (Aw a.l)) (.agg (Aw b.l))).run Tryz.prog w= .ok (.bool (!decide (a=b))) w:=by
 rw[←Tt,run_neq_struct];have h:=run_equalIn_bytes (P:=Tryz.prog) w 9998 23 5 32 Tryz.underlying23 Tryz.underlying5 Tryz.sizeOf5 a.l b.l a.len b.len;show((Op.equalIn 10000 23 (.agg (Aw a.l)) (.agg (Aw b.l))).run Tryz.prog w).andThen _=_;have e:(Op.equalIn 10000 23 (.agg (Aw a.l)) (.agg (Aw b.l))).run Tryz.prog w= .ok (a.l==b.l) w:=h;rw[e];rfl
end Go.Proofs.YtjjhceeookpieaaGreat
end
section
open Go Go.RowKit
namespace Go.Proofs.YtjjhceeookpieaaGreat
theorem Aaa {l m:List Ak} (h:l.length=m.length) (k: ∀i,i<l.length→AG l i=AG m i):l=m:=by
 apply List.ext_getElem h;intro i h1 h2;have:=k i h1;simpa[AG,List.getD_eq_getElem?_getD,h1,h2] using this
end Go.Proofs.YtjjhceeookpieaaGreat
end
section
open Go Go.RowKit
namespace Go.Proofs.YtjjhceeookpieaaGreat
theorem QI (chain:Int): ∀(i a b:Nat) (h:Ak),Hg chain (i+a) b (Hg chain i a h)=Hg chain i (a+b) h
 |i,0,b,h=>by rw[Nat.zero_add];rfl
 |i,a+1,b,h=>by
  have e:=QI chain (i+1) a b (Xb chain i h);have e1:i+1+a=i+(a+1):=by omega
  have e2:a+1+b=(a+b)+1:=by omega
  rw[e1] at e;rw[e2];exact e
theorem YD (chain a b c:Int) (h:Ak) (h0:0≤a) (h1:a≤b) (h2:b≤c) (h3:c≤3):Ev chain b c (Ev chain a b h)=Ev chain a c h:=by
 unfold Ev;have e1:(max b 0).toNat =(max a 0).toNat +(min b 3 -max a 0).toNat :=by omega
 have e2:(min c 3 -max a 0).toNat =(min b 3 -max a 0).toNat +(min c 3 -max b 0).toNat :=by omega
 rw[e1,e2];exact QI _ _ _ _ _
theorem Aar (h:Ak) (k:Nat): ∀d∈DT h k,0≤d∧d≤3:=by
 intro d hd;obtain⟨i,_,rfl⟩:=List.mem_map.1 hd;exact ND _ _
theorem QJ (q:Int): ∀n,∀d∈Dm n q,0≤d∧d≤3
 |0,d,hd=>by cases hd
 |n+1,d,hd=>by
  rcases List.mem_append.1 hd with hd|hd
  ·exact QJ q n d hd
  rw[List.mem_singleton.1 hd];omega
theorem YE (m:List UInt8) (i:Nat) (h:i<36):0≤Ej (Bf m) i∧Ej (Bf m) i≤3:=by
 have hm:=Aas (Bf m) i (by rw[Js];exact h);rcases List.mem_append.1 hm with hm|hm
 ·exact Aar _ _ _ hm
 exact QJ _ _ _ hm
theorem YF (g:Ak→Nat→Ak) (l:List Ak) (n k:Nat) (h:k<n):AG (Hp g l n) k=g (AG l k) k:=by
 simp[Hp,AG,List.getD_eq_getElem?_getD,h]
theorem RP (seed:Ak) (leaf:Int) (m:List UInt8):Ii m (Kt seed leaf m)=IF seed leaf:=by
 unfold Ii IF
 congr 1
 refine List.map_congr_left fun i hi=> ?_
 have hi':i<36:=List.mem_range.1 hi;have hd:=YE m i hi';show Ev i (Ej (Bf m) i) 3 (AG (Hp _ _ 36) i)=_;rw[YF _ _ _ _ hi'];exact YD i 0 (Ej (Bf m) i) 3 _ (by decide) hd.1 hd.2 (by decide)
theorem YG (seed:Ak) (leaf:Int) (m:List UInt8):(Kt seed leaf m).length =36:=FS _ _ _
end Go.Proofs.YtjjhceeookpieaaGreat
end
