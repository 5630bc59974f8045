/- OcSpec -/
import Derived.Test.YtjjhceeookpieaaGreatUhBase
namespace Go.Proofs.YtjjhceeookpieaaGreat
def enc (n:Nat):List UInt8:=if n<128 then[UInt8.ofNat n] else UInt8.ofNat (n%128+128)::enc (n/128)
termination_by n
decreasing_by omega
theorem Fa {n:Nat} (h:n<128):enc n=[UInt8.ofNat n]:=by rw[enc,if_pos h]
theorem GB {n:Nat} (h: ¬n<128):enc n=UInt8.ofNat (n%128+128)::enc (n/128):=by rw[enc,if_neg h]
def CB (v:Int):Nat:=(min (max v 0) 4611686018427387904).toNat
def Ae (vs:List Int):List UInt8:=vs.flatMap fun v=>enc (CB v)
def Ap (p:List UInt8):List UInt8:=enc p.length++p
theorem VN (n:Nat) (k:Nat) (h:n<128^k) (hk:0<k):(enc n).length ≤k:=by
 induction k generalizing n with
 |zero=>omega
 |succ k ih=>
  by_cases hs:n<128
  ·rw[Fa hs];simp
  rw[GB hs];have:0<k:=by
   rcases Nat.eq_zero_or_pos k with rfl|h0
   ·simp at h;omega
   exact h0
  have:=ih (n/128) (by rw[Nat.pow_succ] at h;omega) this;simp;omega
theorem IE (n:Nat) (h:n≤4611686018427387904):(enc n).length ≤9:=VN n 9 (by omega) (by omega)
theorem Mm (v:Int):CB v≤4611686018427387904:=by unfold CB;omega
theorem Az (vs:List Int):(Ae vs).length ≤9*vs.length:=by
 induction vs with
 |nil=>simp[Ae]
 |cons v vs ih=>
  have:=IE _ (Mm v);simp only[Ae,List.flatMap_cons,List.length_append,List.length_cons] at*;omega
theorem Nd (vs:List Int) (v:Int):Ae (vs++[v])=Ae vs++enc (CB v):=by simp[Ae]
theorem Bk (v:Int):Ae [v]=enc (CB v):=by simp[Ae]
theorem KK (n:Nat) (h:n≤4611686018427387904):CB n=n:=by unfold CB;omega
theorem Adz (n:Nat):(enc n).length =1+(if n/128=0 then 0 else(enc (n/128)).length):=by
 by_cases h:n<128
 ·rw[Fa h,if_pos (by omega)];rfl
 rw[GB h,if_neg (by omega)];simp;omega
theorem Ae0 (n:Nat):0<(enc n).length :=by have:=Adz n;omega
end Go.Proofs.YtjjhceeookpieaaGreat
