/- MkH -/
import Derived.Test.YtjjhceeookpieaaGreatUhBase
import Derived.Test.YtjjhceeookpieaaGreatShelf
set_option maxRecDepth 100000
set_option maxHeartbeats 800000
open Go Go.RowKit
namespace Go.Proofs.YtjjhceeookpieaaGreat
def AS (n:Nat):Nat:=2^Nat.log2 (n -1)
theorem Eu (n:Nat) (h:2≤n):1≤AS n∧AS n<n∧n≤2*AS n:=by
 have h1:n -1≠0:=by omega
 have h2:=Nat.log2_self_le h1;have h3:=@Nat.lt_log2_self (n -1);have h4:2^(Nat.log2 (n -1)+1)=2*2^Nat.log2 (n -1):=by rw[Nat.pow_succ,Nat.mul_comm]
 have h5:1≤2^Nat.log2 (n -1):=Nat.one_le_two_pow;unfold AS;omega
theorem Aak (n j:Nat) (h1:2^j<n) (h2:n≤2*2^j):2^j=AS n:=by
 unfold AS
 congr 1
 have h3:n -1≠0:=by have:1≤2^j:=Nat.one_le_two_pow;omega
 exact((Nat.log2_eq_iff h3).2 ⟨by omega,by rw[Nat.pow_succ];omega⟩).symm
theorem Ko: ∀(f x:Nat),x≠0→x<2^f→Lib.bitLenAux f x=Nat.log2 x+1
 |0,x,h0,h=>by simp at h;omega
 |f+1,x,h0,h=>by
  rw[Lib.bitLenAux,if_neg h0,Nat.log2_def];by_cases h2:2≤x
  ·rw[if_pos h2,Ko f (x/2) (by omega) (by rw[Nat.pow_succ] at h;omega)];omega
  rw[if_neg h2,show x/2=0 by omega];cases f<;>simp[Lib.bitLenAux]
theorem VJ (x:Nat) (h0:x≠0) (h1:x<2^64):Lib.bitLen x=Nat.log2 x+1:=Ko 64 x h0 h1
theorem ID (f t:Nat) (w:World) (h:f+2≤t) (ht:t≤1000):
    Calls Tryz.prog 165 #[.int .i64 (f:Int), .int .i64 (t:Int)] w fun e w'=>e= .returned (.int .i64 ((f+AS (t -f):Nat):Int))∧Ag Ab w w':=by
 have hh:=Eu (t -f) (by omega);obtain⟨L,hL⟩: ∃L,L=Nat.log2 (t -f -1):=⟨_,rfl⟩;have hp:(2:Nat)^L=AS (t -f):=by rw[hL];rfl
 have hLb:L≤10:=by
  have h1:2^L≤2^10:=by rw[hp];omega
  exact(Nat.pow_le_pow_iff_right (by decide)).1 h1
 have hbl:Lib.bitLen ((t:Int) -f -1).toNat =L+1:=by
  rw[show((t:Int) -f -1).toNat =t -f -1 by omega,VJ _ (by omega) (by omega),hL]
 have HBL:=Lib.hid hbl;have hp2:(2:Int)^L=(AS (t -f):Int):=by rw[←hp,Int.natCast_pow];rfl
 have HP:=Lib.hid hp2;have HF:Hid (wrap64 ((f:Int)+wrap64 ((AS (t -f):Nat):Int))=((f+AS (t -f):Nat):Int)):=Lib.hid (by
  have:wrap64 ((AS (t -f):Nat):Int)=((AS (t -f):Nat):Int):=by unfold wrap64;omega
  rw[this];unfold wrap64;omega)
 have hx0:0≤(t:Int) -f -1:=by omega
 have hx1:(t:Int) -f -1≤18446744073709551615:=by omega
 clear hbl hp hp2 hL;go_enter Tryz.func165,Tryz.ntmps165;go_wp2_with fail;refine(Tryz.bits_Len _ _ hx0 hx1).mono ?_;rw[HBL.out];rintro e w1 ⟨rfl,rfl⟩;go_wp2_with fail;go_ret;rw[HP.out,HF.out];exact⟨rfl,Aa⟩
end Go.Proofs.YtjjhceeookpieaaGreat
