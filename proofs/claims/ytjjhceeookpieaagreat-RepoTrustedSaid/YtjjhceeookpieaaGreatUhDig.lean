/- Dig -/
import Derived.Test.YtjjhceeookpieaaGreatUhBase
import Derived.Test.YtjjhceeookpieaaGreatProg
import Derived.StillTailTactics
import Derived.Deep.WholeRow
set_option maxRecDepth 100000
set_option maxHeartbeats 1600000
section
open Go Go.RowKit
namespace Go.Proofs.YtjjhceeookpieaaGreat
def CL (n x:Nat):Nat:=x/2^n+x%2^n*2^(32 -n)
def Bd (a b:Nat):Nat:=(a+b)%4294967296
def Afy (e f g:Nat):Nat:=(e&&&f)^^^((4294967295 -e)&&&g)
def ZV (a b c:Nat):Nat:=((a&&&b)^^^(a&&&c))^^^(b&&&c)
def ZW (e:Nat):Nat:=(CL 6 e^^^CL 11 e)^^^CL 25 e
def ZX (a:Nat):Nat:=(CL 2 a^^^CL 13 a)^^^CL 22 a
def Tl (x:Nat):Nat:=(CL 7 x^^^CL 18 x)^^^x/8
def Tm (x:Nat):Nat:=(CL 17 x^^^CL 19 x)^^^x/1024
theorem CI {n x:Nat} (hx:x<4294967296) (h1:1≤n) (h31:n≤31):CL n x<4294967296:=by
 have h: ∀n,n<32→1≤n→2^n*2^(32 -n)=4294967296:=by decide
 have hm:=h n (by omega) h1;unfold CL;have h2:x/2^n<2^(32 -n):=by
  rw[Nat.div_lt_iff_lt_mul (Nat.pow_pos (by decide)),Nat.mul_comm,hm];exact hx
 have h3:x%2^n+1≤2^n:=Nat.mod_lt _ (Nat.pow_pos (by decide));have h4:=Nat.mul_le_mul_right (2^(32 -n)) h3;rw[hm,Nat.add_mul,Nat.one_mul] at h4;omega
theorem Hl {a b:Nat} (ha:a<4294967296) (hb:b<4294967296):a^^^b<4294967296:=Nat.xor_lt_two_pow (n:=32) ha hb
theorem Hm {a:Nat} (b:Nat) (ha:a<4294967296):a&&&b<4294967296:=by have:=@Nat.and_le_left a b;omega
theorem DE (a b:Nat):Bd a b<4294967296:=Nat.mod_lt _ (by decide)
structure V8 where
 a:Nat
 b:Nat
 c:Nat
 d:Nat
 e:Nat
 f:Nat
 g:Nat
 h:Nat
def V8.ok (v:V8):Prop:=v.a<4294967296∧v.b<4294967296∧v.c<4294967296∧v.d<4294967296∧v.e<4294967296∧v.f<4294967296∧v.g<4294967296∧v.h<4294967296
def V8.l (v:V8):List Nat:=[v.a,v.b,v.c,v.d,v.e,v.f,v.g,v.h]
def V8.t1 (v:V8) (k w:Nat):Nat:=Bd (Bd (Bd (Bd v.h (ZW v.e)) (Afy v.e v.f v.g)) k) w
def V8.t2 (v:V8):Nat:=Bd (ZX v.a) (ZV v.a v.b v.c)
def V8.round (v:V8) (k w:Nat):V8:=⟨Bd (v.t1 k w) v.t2,v.a,v.b,v.c,Bd v.d (v.t1 k w),v.e,v.f,v.g⟩
theorem V8.ok_round {v:V8} (h:v.ok) (k w:Nat):(v.round k w).ok :=by
 obtain⟨h1,h2,h3,h4,h5,h6,h7,h8⟩:=h;exact⟨DE _ _,h1,h2,h3,DE _ _,h5,h6,h7⟩
def V8.turn (ks ws:List Nat):Nat→V8→V8
 |0,v=>v
 |i+1,v=>(V8.turn ks ws i v).round (ks.getD i 0) (ws.getD i 0)
theorem V8.ok_turn {v:V8} (h:v.ok) (ks ws:List Nat) (i:Nat):(V8.turn ks ws i v).ok :=by
 induction i with
 |zero=>exact h
 |succ i ih=>exact V8.ok_round ih _ _
def V8.add (v u:V8):V8:=⟨Bd v.a u.a,Bd v.b u.b,Bd v.c u.c,Bd v.d u.d,Bd v.e u.e,Bd v.f u.f,Bd v.g u.g,Bd v.h u.h⟩
theorem V8.ok_add (v u:V8):(v.add u).ok :=⟨DE _ _,DE _ _,DE _ _,DE _ _,DE _ _,DE _ _,DE _ _,DE _ _⟩
def MO (p:List UInt8) (i:Nat):Nat:=(p.getD (4*i) 0).toNat *16777216+(p.getD (4*i+1) 0).toNat *65536+(p.getD (4*i+2) 0).toNat *256+(p.getD (4*i+3) 0).toNat
theorem NV (p:List UInt8) (i:Nat):MO p i<4294967296:=by
 unfold MO;have h1:=(p.getD (4*i) 0).toNat_lt;have h2:=(p.getD (4*i+1) 0).toNat_lt;have h3:=(p.getD (4*i+2) 0).toNat_lt;have h4:=(p.getD (4*i+3) 0).toNat_lt;omega
def De (p:List UInt8) (k:Nat):List Nat:=(List.range k).map (MO p)
def Lj (ws:List Nat) (i:Nat):Nat:=Bd (Bd (Bd (ws.getD (i -16) 0) (Tl (ws.getD (i -15) 0))) (ws.getD (i -7) 0)) (Tm (ws.getD (i -2) 0))
def Bc (p:List UInt8):Nat→List Nat
 |0=>De p 16
 |i+1=>Bc p i++[Lj (Bc p i) (16+i)]
theorem Jn (p:List UInt8) (k:Nat):(De p k).length =k:=by simp[De]
theorem Lk (p:List UInt8) (k:Nat):De p (k+1)=De p k++[MO p k]:=by simp[De,List.range_succ]
theorem EG (p:List UInt8) (i:Nat):(Bc p i).length =16+i:=by
 induction i with
 |zero=>simp[Bc,Jn]
 |succ i ih=>simp[Bc,ih];omega
theorem Ll (p:List UInt8) (i:Nat): ∀x∈Bc p i,x<4294967296:=by
 induction i with
 |zero=>
  intro x hx;obtain⟨j,_,rfl⟩:=List.mem_map.1 hx;exact NV p j
 |succ i ih=>
  intro x hx;rcases List.mem_append.1 hx with h|h
  ·exact ih x h
  rw[List.mem_singleton.1 h];exact DE _ _
theorem Ha {l:List Nat} (h: ∀x∈l,x<4294967296) (i:Nat):l.getD i 0<4294967296:=by
 rw[List.getD_eq_getElem?_getD];rcases hi:l[i]? with _|x
 ·decide
 exact h x (List.mem_of_getElem? hi)
def Ec:List Nat:=[
 0x428a2f98,0x71374491,0xb5c0fbcf,0xe9b5dba5,0x3956c25b,0x59f111f1,0x923f82a4,0xab1c5ed5,
 0xd807aa98,0x12835b01,0x243185be,0x550c7dc3,0x72be5d74,0x80deb1fe,0x9bdc06a7,0xc19bf174,
 0xe49b69c1,0xefbe4786,0x0fc19dc6,0x240ca1cc,0x2de92c6f,0x4a7484aa,0x5cb0a9dc,0x76f988da,
 0x983e5152,0xa831c66d,0xb00327c8,0xbf597fc7,0xc6e00bf3,0xd5a79147,0x06ca6351,0x14292967,
 0x27b70a85,0x2e1b2138,0x4d2c6dfc,0x53380d13,0x650a7354,0x766a0abb,0x81c2c92e,0x92722c85,
 0xa2bfe8a1,0xa81a664b,0xc24b8b70,0xc76c51a3,0xd192e819,0xd6990624,0xf40e3585,0x106aa070,
 0x19a4c116,0x1e376c08,0x2748774c,0x34b0bcb5,0x391c0cb3,0x4ed8aa4a,0x5b9cca4f,0x682e6ff3,
 0x748f82ee,0x78a5636f,0x84c87814,0x8cc70208,0x90befffa,0xa4506ceb,0xbef9a3f7,0xc67178f2]
theorem WQ: ∀x∈Ec,x<4294967296:=by decide
theorem Lm:Ec.length=64:=by decide
def Dl:V8:=⟨0x6a09e667,0xbb67ae85,0x3c6ef372,0xa54ff53a,0x510e527f,0x9b05688c,0x1f83d9ab,0x5be0cd19⟩
theorem FD:Dl.ok:=by unfold V8.ok Dl;decide
def Ru (v:V8) (p:List UInt8):V8:=v.add (V8.turn Ec (Bc p 48) 64 v)
def Bz:Nat→V8→List UInt8→V8
 |0,v,_=>v
 |n+1,v,p=>Bz n (Ru v (p.take 64)) (p.drop 64)
theorem EX {v:V8} (h:v.ok) (n:Nat) (p:List UInt8):(Bz n v p).ok :=by
 induction n generalizing v p with
 |zero=>exact h
 |succ n ih=>exact ih (V8.ok_add _ _) _
theorem MP (v:V8) (n:Nat) (p:List UInt8):Bz (n+1) v p=Ru (Bz n v p) ((p.drop (64*n)).take 64):=by
 induction n generalizing v p with
 |zero=>rfl
 |succ n ih=>
  rw[Bz,ih,Bz,List.drop_drop]
  congr 3
  omega
theorem Vu (v:V8) (a b:Nat) (p:List UInt8):Bz (a+b) v p=Bz b (Bz a v p) (p.drop (64*a)):=by
 induction a generalizing v p with
 |zero=>simp[Bz]
 |succ a ih=>
  rw[show a+1+b=(a+b)+1 by omega,Bz,ih,Bz,List.drop_drop]
  congr 2
  omega
theorem Tn (v:V8) (n:Nat) (p q:List UInt8) (h:p.length=64*n):Bz n v (p++q)=Bz n v p:=by
 induction n generalizing v p with
 |zero=>rfl
 |succ n ih=>
  rw[Bz,Bz,List.take_append_of_le_length (by omega),List.drop_append_of_le_length (by omega),ih _ _ (by simp;omega)]
def Id (n:Nat):List UInt8:=(List.range 8).map fun i=>UInt8.ofNat (n/2^(8*(7 -i)))
def Jo (n:Nat):List UInt8:=List.replicate n 0
def Rv (n:Nat):Nat:=(119 -n%64)%64
def DF (p:List UInt8):List UInt8:=p++[128]++Jo (Rv p.length)++Id (8*p.length)
theorem Vv (p:List UInt8):(DF p).length =64*((p.length+72)/64):=by
 simp[DF,Jo,Id,Rv];omega
def Ga (v:V8):List UInt8:=(List.range 32).map fun i=>UInt8.ofNat (v.l.getD (i/4) 0/2^(24 -8*(i%4)))
def MQ (p:List UInt8):List UInt8:=Ga (Bz ((p.length+72)/64) Dl (DF p))
theorem JO (p:List UInt8):(MQ p).length =32:=by simp[MQ,Ga]
theorem Tp (a b:Nat):((a:Int)+(b:Int))%4294967296=((Bd a b:Nat):Int):=by unfold Bd;omega
theorem Ba (a b x:Nat) (h:x=a^^^b) (ha:a<4294967296) (hb:b<4294967296):bits .xor .u32 (a:Int) (b:Int)=(x:Int):=by rw[h];exact u32_xor_nat a b ha hb
theorem Dq (a b x:Nat) (h:x=a&&&b) (ha:a<4294967296) (hb:b<4294967296):bits .and .u32 (a:Int) (b:Int)=(x:Int):=by rw[h];exact u32_and_nat a b ha hb
theorem Bi (x:Int):IntKind.u32.wrap x=x%4294967296:=by simp[IntKind.wrap,IntKind.bits,IntKind.signed]
theorem Bj (a b x:Nat) (h:x=Bd a b):IntKind.u32.wrap ((a:Int)+(b:Int))=(x:Int):=by rw[Bi,h];exact Tp a b
theorem EY (a b x:Nat) (h:x=Bd a b):((a:Int)+(b:Int))%4294967296=(x:Int):=by rw[h];exact Tp a b
theorem Qu (n x:Nat) (hx:x<4294967296) (h1:1≤n) (h31:n≤31):x*2^(32 -n)%4294967296|||x/2^n=CL n x∧x/2^n|||x*2^(32 -n)%4294967296=CL n x:=by
 have h: ∀n,n<32→1≤n→2^n*2^(32 -n)=4294967296:=by decide
 have hm:=h n (by omega) h1;have hd:x/2^n<2^(32 -n):=by
  rw[Nat.div_lt_iff_lt_mul (Nat.pow_pos (by decide)),Nat.mul_comm,hm];exact hx
 have hr:x*2^(32 -n)%4294967296=x%2^n*2^(32 -n):=by
  rw[←hm,Nat.mul_mod_mul_right]
 have e1:x%2^n*2^(32 -n)|||x/2^n=x%2^n*2^(32 -n)+x/2^n:=by
  rw[Nat.mul_comm];exact(Nat.two_pow_add_eq_or_of_lt hd _).symm
 unfold CL;rw[hr];refine⟨by rw[e1,Nat.add_comm],by rw[Nat.or_comm,e1,Nat.add_comm]⟩
end Go.Proofs.YtjjhceeookpieaaGreat
end
section
open Go Go.RowKit
namespace Go.Proofs.YtjjhceeookpieaaGreat
theorem PC (n:Nat) (h1:1≤n) (h31:n≤31):bits .and .u64 (IntKind.u64.wrap (-(n:Int))) 31=((32 -n:Nat):Int):=by
 have h: ∀n:Nat,n<32→1≤n→bits .and .u64 (IntKind.u64.wrap (-(n:Int))) 31=((32 -n:Nat):Int):=by decide
 exact h n (by omega) h1
theorem EZ (a b x:Nat) (h:a|||b=x) (ha:a<4294967296) (hb:b<4294967296):bits .or .u32 (a:Int) (b:Int)=(x:Int):=by rw[←h];exact u32_or_nat a b ha hb
theorem XV (x n:Nat) (w:World) (hx:x<4294967296) (h1:1≤n) (h31:n≤31):
    Calls Tryz.prog 228 #[.int .u32 x, .int .i64 (-(n:Int))] w fun e w'=>e= .returned (.int .u32 (CL n x:Nat))∧w'=w:=by
 have q1:=PC n h1 h31;have hb:=(Qu n x hx h1 h31).1;obtain⟨s,hs⟩: ∃s,s=32 -n:=⟨_,rfl⟩;rw[←hs] at q1 hb;have hs1:1≤s:=by omega
 have hs2:s≤31:=by omega
 have hsn:n=32 -s:=by omega
 rw[show x/2^n=x/2^(32 -s) by rw[hsn]] at hb;have q2:Hid (bits .or .u32 ((x:Int)*2^s%4294967296) ((x:Int)/2^(32 -s))=(CL n x:Nat)):=Lib.hid (by
  have h2:=EZ (x*2^s%4294967296) (x/2^(32 -s)) _ hb (by omega) (by have:=Nat.div_le_self x (2^(32 -s));omega);rw[←h2];simp)
 clear hb hs hsn;go_enter Tryz.func228,Tryz.ntmps228
 go_wp2
 go_ret;rw[q2.out];exact⟨rfl,rfl⟩
theorem DL (x n:Nat) (w:World) (hx:x<4294967296) (h1:1≤n) (h31:n≤31):
    Calls Tryz.prog 198 #[.int .u32 x, .int .i64 n] w fun e w'=>e= .returned (.int .u32 (CL n x:Nat))∧w'=w:=by
 go_enter Tryz.func198,Tryz.ntmps198;go_wp2_with fail;refine(XV x n _ hx h1 h31).mono ?_;rintro e w2 ⟨rfl,rfl⟩
 go_wp2
 go_ret;exact⟨rfl,rfl⟩
theorem XW (x:Nat) (m:Int) (w:World) (h1:1≤m) (h31:m≤31) (hx:x<4294967296):
    Calls Tryz.prog 198 #[.int .u32 x, .int .i64 m] w fun e w'=>e= .returned (.int .u32 (CL m.toNat x:Nat))∧w'=w:=by
 obtain⟨n,rfl⟩:=Int.eq_ofNat_of_zero_le (show 0≤m by omega);exact DL x n w hx (by omega) (by omega)
theorem Vw (x n:Nat) (w:World) (hx:x<4294967296) (h1:1≤n) (h31:n≤31):
    Calls Tryz.prog 207 #[.int .u32 x, .int .u64 n] w fun e w'=>e= .returned (.int .u32 (CL n x:Nat))∧w'=w:=by
 have hb:=(Qu n x hx h1 h31).2;have q2:Hid (bits .or .u32 ((x:Int)/2^n) ((x:Int)*2^(32 -n)%4294967296)=(CL n x:Nat)):=Lib.hid (by
  have h2:=EZ (x/2^n) (x*2^(32 -n)%4294967296) _ hb (by have:=Nat.div_le_self x (2^n);omega) (by omega);rw[←h2];simp)
 clear hb;go_enter Tryz.func207,Tryz.ntmps207
 go_wp2
 go_ret;rw[q2.out];exact⟨rfl,rfl⟩
theorem Ln (x:Nat) (m:Int) (w:World) (h1:1≤m) (h31:m≤31) (hx:x<4294967296):
    Calls Tryz.prog 207 #[.int .u32 x, .int .u64 m] w fun e w'=>e= .returned (.int .u32 (CL m.toNat x:Nat))∧w'=w:=by
 obtain⟨n,rfl⟩:=Int.eq_ofNat_of_zero_le (show 0≤m by omega);exact Vw x n w hx (by omega) (by omega)
end Go.Proofs.YtjjhceeookpieaaGreat
end
section
open Go Go.RowKit
namespace Go.Proofs.YtjjhceeookpieaaGreat
theorem Tq (a:Nat) (ha:a<4294967296):bits .xor .u32 IntKind.u32.max (a:Int)=((4294967295 -a:Nat):Int):=by
 rw[show IntKind.u32.max=((4294967295:Nat):Int) from rfl,u32_xor_nat _ a (by decide) ha]
 congr 1
 have h1:(BitVec.ofNat 32 a).toNat =a:=by simp[Nat.mod_eq_of_lt ha]
 have h2:(BitVec.allOnes 32^^^BitVec.ofNat 32 a).toNat =4294967295 -a:=by
  rw[BitVec.allOnes_xor,BitVec.toNat_not,h1]
 rw[BitVec.toNat_xor,h1] at h2;exact h2
theorem Afz (u:V8) (k:Nat) (hk:k<8) (w:World):(Instr.index 155 (.agg #[.int .u32 (u.a:Int), .int .u32 (u.b:Int), .int .u32 (u.c:Int), .int .u32 (u.d:Int), .int .u32 (u.e:Int), .int .u32 (u.f:Int), .int .u32 (u.g:Int), .int .u32 (u.h:Int)]) (.int .i64 (k:Int))).run Tryz.prog w= .ok (.int .u32 (u.l.getD k 0:Nat)) w:=by
 rcases(show k=0∨k=1∨k=2∨k=3∨k=4∨k=5∨k=6∨k=7 by omega) with rfl|rfl|rfl|rfl|rfl|rfl|rfl|rfl<;>kernel_rfl
def Fh (v u:V8) (k:Nat):List Nat:=(List.range 8).map fun i=>if i<k then Bd (v.l.getD i 0) (u.l.getD i 0) else v.l.getD i 0
theorem MR (v u:V8) (k:Nat):(Fh v u k).length =8:=by simp[Fh]
theorem MS (v u:V8):Fh v u 8=(v.add u).l :=rfl
theorem MT (v u:V8) (k:Nat) (h:k<8):(Fh v u k).getD k 0=v.l.getD k 0:=by
 simp[Fh,List.getD_eq_getElem?_getD,h]
theorem MU (v u:V8) (k:Nat):(Fh v u k).set k (Bd (v.l.getD k 0) (u.l.getD k 0))=Fh v u (k+1):=by
 apply List.ext_getElem
 ·simp[Fh]
 intro i h1 h2;rw[List.getElem_set];simp only[Fh,List.getElem_map,List.getElem_range];by_cases h:k=i
 ·subst h;rw[if_pos rfl,if_pos (by omega)]
 rw[if_neg h];by_cases h3:i<k
 ·rw[if_pos h3,if_pos (by omega)]
 rw[if_neg h3,if_neg (by omega)]
theorem Vx (g gw gk:Nat) (v:V8) (ws ks:List Nat) (w:World) (hv:v.ok) (hb:AT w g 156 (AK v.l)) (hw:AT w gw 153 (AK ws)) (hk:AT w gk 153 (AK ks))
    (hwl:ws.length=64) (hkl:ks.length=64) (hw32: ∀x∈ws,x<4294967296) (hk32: ∀x∈ks,x<4294967296):
    Calls Tryz.prog 138 #[.pointer (some ⟨g,0,none⟩), .pointer (some ⟨gw,0,none⟩), .pointer (some ⟨gk,0,none⟩)] w fun e w'=>e= .returned (.tuple #[])∧
     Hid (AT w' g 156 (AK (v.add (V8.turn ks ws 64 v)).l))∧Hid (Au (fun k=>k=g) w w'):=by
 have HB:=Lib.hid hb;have HW:=Lib.hid hw;have HK:=Lib.hid hk;have HWL:=Lib.hid hwl;have HKL:=Lib.hid hkl;have HW32:=Lib.hid hw32;have HK32:=Lib.hid hk32;have HV:=Lib.hid hv;have c0:w.cell? ⟨g,0,none⟩=some (.int .u32 (v.a:Int)):=HB.out.cell 0;have c1:w.cell? ⟨g,1,none⟩=some (.int .u32 (v.b:Int)):=HB.out.cell 1;have c2:w.cell? ⟨g,2,none⟩=some (.int .u32 (v.c:Int)):=HB.out.cell 2;have c3:w.cell? ⟨g,3,none⟩=some (.int .u32 (v.d:Int)):=HB.out.cell 3;have c4:w.cell? ⟨g,4,none⟩=some (.int .u32 (v.e:Int)):=HB.out.cell 4;have c5:w.cell? ⟨g,5,none⟩=some (.int .u32 (v.f:Int)):=HB.out.cell 5;have c6:w.cell? ⟨g,6,none⟩=some (.int .u32 (v.g:Int)):=HB.out.cell 6;have c7:w.cell? ⟨g,7,none⟩=some (.int .u32 (v.h:Int)):=HB.out.cell 7;clear hb hw hk hwl hkl hw32 hk32 hv;go_enter Tryz.func138,Tryz.ntmps138;go_wp2_with fail
 go_quiet (fail)
 go_wp2_with fail;clear c0 c1 c2 c3 c4 c5 c6 c7;go_loopw [6,7,8,9,10,11,12,13,51] (fun a b c d e f g h t wr=>∃(k:Nat) (u:V8),k≤64∧t= .int .i64 k∧a= .int .u32 (u.a:Int)∧b= .int .u32 (u.b:Int)∧c= .int .u32 (u.c:Int)∧d= .int .u32 (u.d:Int)∧
     e= .int .u32 (u.e:Int)∧f= .int .u32 (u.f:Int)∧g= .int .u32 (u.g:Int)∧h= .int .u32 (u.h:Int)∧u=V8.turn ks ws k v∧Au Ab w wr) (fun _ _ _ _ _ _ _ _ t _=>64 -(intOf t).toNat)
 case atStart=>exact⟨0,v,Nat.zero_le _,rfl,rfl,rfl,rfl,rfl,rfl,rfl,rfl,rfl,rfl,(Au.refl _ _).drewN nq⟩
 case round=>
  obtain⟨k,u,hk,rfl,rfl,rfl,rfl,rfl,rfl,rfl,rfl,rfl,hu,hch⟩:=hrel;have HCH:=Lib.hid hch;clear hch;have hok:u.ok:=by rw[hu];exact V8.ok_turn HV.out _ _ _
  have HU:=Lib.hid hu;clear hu;by_cases hlt:k<64
  ·have e1:(k:Int)<64:=by omega
   have cw:wr.cell? ⟨gw,k,none⟩=some (.int .u32 (ws.getD k 0:Nat)):=by
    rw[(HW.out.chg HCH.out (fun h=>h)).cell];exact CZ _ _ (by have:=HWL.out;omega)
   have ck:wr.cell? ⟨gk,k,none⟩=some (.int .u32 (ks.getD k 0:Nat)):=by
    rw[(HK.out.chg HCH.out (fun h=>h)).cell];exact CZ _ _ (by have:=HKL.out;omega)
   have hround:V8.turn ks ws (k+1) v=u.round (ks.getD k 0) (ws.getD k 0):=by rw[HU.out];rfl
   have lw:=Ha HW32.out k;have lk:=Ha HK32.out k;generalize ws.getD k 0=wk at*;generalize ks.getD k 0=kk at*;have HRD:=Lib.hid hround;clear hround;rcases u with⟨a,b,c,d,e,f,g',h⟩
   obtain⟨la,lb,lc,ld,le,lf,lg,lh⟩:=hok
   dsimp only at la lb lc ld le lf lg lh⊢
   obtain⟨xa,hxa⟩: ∃z,z=CL 6 e^^^CL 11 e:=⟨_,rfl⟩;obtain⟨xb,hxb⟩: ∃z,z=ZW e:=⟨_,rfl⟩;have a1:=@CI 6 e le (by decide) (by decide);have a2:=@CI 11 e le (by decide) (by decide);have a3:=@CI 25 e le (by decide) (by decide);have a4:xa<4294967296:=by rw[hxa];exact Hl a1 a2
   have q1:=Ba _ _ xa hxa a1 a2;have q2:=Ba xa _ xb (by rw[hxb,hxa];rfl) a4 a3;have q1':bits .xor .u32 ((CL (Int.toNat 6) e:Nat):Int) ((CL (Int.toNat 11) e:Nat):Int)=xa:=q1;have q2':bits .xor .u32 (xa:Int) ((CL (Int.toNat 25) e:Nat):Int)=xb:=q2;obtain⟨ya,hya⟩: ∃z,z=e&&&f:=⟨_,rfl⟩;obtain⟨ne,hne⟩: ∃z,z=4294967295 -e:=⟨_,rfl⟩;obtain⟨yb,hyb⟩: ∃z,z=ne&&&g':=⟨_,rfl⟩;obtain⟨yc,hyc⟩: ∃z,z=Afy e f g':=⟨_,rfl⟩;have a5:ya<4294967296:=by rw[hya];exact Hm _ le
   have a6:ne<4294967296:=by omega
   have a7:yb<4294967296:=by rw[hyb];exact Hm _ a6
   have q3:=Dq e f ya hya le lf;have q4:=Tq e le;rw[←hne] at q4;have q5:=Dq ne g' yb hyb a6 lg;have q6:=Ba ya yb yc (by rw[hyc,hya,hyb,hne];rfl) a5 a7;obtain⟨t1,ht1⟩: ∃z,z=Bd h xb:=⟨_,rfl⟩;obtain⟨t2,ht2⟩: ∃z,z=Bd t1 yc:=⟨_,rfl⟩;obtain⟨t3,ht3⟩: ∃z,z=Bd t2 kk:=⟨_,rfl⟩;obtain⟨t4,ht4⟩: ∃z,z=Bd t3 wk:=⟨_,rfl⟩;have p1:=Bj h xb t1 ht1;have p2:=Bj t1 yc t2 ht2;have p3:=Bj t2 kk t3 ht3;have p4:=Bj t3 wk t4 ht4;have p5:((t1:Int)+(yc:Int)+(kk:Int)+(wk:Int))%4294967296=(t4:Int):=by rw[ht4,ht3,ht2];unfold Bd;omega
   have HT1:Hid (t4=V8.t1 ⟨a,b,c,d,e,f,g',h⟩ kk wk):=Lib.hid (by rw[ht4,ht3,ht2,ht1,hxb,hyc];rfl);have lt4:t4<4294967296:=by rw[ht4];exact DE _ _
   clear hxa hxb hya hne hyb hyc ht1 ht2 ht3 ht4;go_wp2_with fail
   go_quiet ((go_at_call 198;exact Calls.quiet_of_same (XW _ _ _ (by decide) (by decide) le)))
   clear p1 p2 p3 p4 q1 q2 q1' q2' a1 a2 a3;obtain⟨xc,hxc⟩: ∃z,z=CL 2 a^^^CL 13 a:=⟨_,rfl⟩;obtain⟨xd,hxd⟩: ∃z,z=ZX a:=⟨_,rfl⟩;have a1:=@CI 2 a la (by decide) (by decide);have a2:=@CI 13 a la (by decide) (by decide);have a3:=@CI 22 a la (by decide) (by decide);have a8:xc<4294967296:=by rw[hxc];exact Hl a1 a2
   have r1:=Ba _ _ xc hxc a1 a2;have r2:=Ba xc _ xd (by rw[hxd,hxc];rfl) a8 a3;obtain⟨za,hza⟩: ∃z,z=a&&&b:=⟨_,rfl⟩;obtain⟨zb,hzb⟩: ∃z,z=a&&&c:=⟨_,rfl⟩;obtain⟨zc,hzc⟩: ∃z,z=b&&&c:=⟨_,rfl⟩;obtain⟨zd,hzd⟩: ∃z,z=za^^^zb:=⟨_,rfl⟩;obtain⟨ze,hze⟩: ∃z,z=ZV a b c:=⟨_,rfl⟩;have b1:za<4294967296:=by rw[hza];exact Hm _ la
   have b2:zb<4294967296:=by rw[hzb];exact Hm _ la
   have b3:zc<4294967296:=by rw[hzc];exact Hm _ lb
   have b4:zd<4294967296:=by rw[hzd];exact Hl b1 b2
   have r3:=Dq a b za hza la lb;have r4:=Dq a c zb hzb la lc;have r5:=Dq b c zc hzc lb lc;have r6:=Ba za zb zd hzd b1 b2;have r7:=Ba zd zc ze (by rw[hze,hzd,hza,hzb,hzc];rfl) b4 b3;obtain⟨u2,hu2⟩: ∃z,z=Bd xd ze:=⟨_,rfl⟩;obtain⟨na,hna⟩: ∃z,z=Bd t4 u2:=⟨_,rfl⟩;obtain⟨nd,hnd⟩: ∃z,z=Bd d t4:=⟨_,rfl⟩;have m1:=EY xd ze u2 hu2;have m2:=EY t4 u2 na hna;have m3:=EY d t4 nd hnd;have HR:Hid (V8.turn ks ws (k+1) v=⟨na,a,b,c,nd,e,f,g'⟩):=Lib.hid (by
    rw[HRD.out,hna,hnd,hu2,hxd,hze,HT1.out];rfl)
   clear hxc hxd hza hzb hzc hzd hze hu2 hna hnd;go_wp2_with fail;refine(DL a 2 _ la (by decide) (by decide)).mono ?_;rintro e2 w2 ⟨rfl,rfl⟩;go_wp2_with fail;refine(DL a 13 _ la (by decide) (by decide)).mono ?_;rintro e2 w2 ⟨rfl,rfl⟩;go_wp2_with fail;refine(DL a 22 _ la (by decide) (by decide)).mono ?_;rintro e2 w2 ⟨rfl,rfl⟩;go_wp2_with fail;exact⟨⟨k+1,⟨na,a,b,c,nd,e,f,g'⟩,by omega,by go_num,by first|rfl|rw[m2],rfl,rfl,rfl,by first|rfl|rw[m3],rfl,rfl,rfl,HR.out.symm,HCH.out.drewN nq⟩,by simp[intOf];omega⟩
  have e1:(64:Int)≤k:=by omega
  obtain rfl:k=64:=by omega
  have HBW:=Lib.hid (HB.out.chg HCH.out (fun h=>h));have hix:=fun k hk w=>Afz u k hk w
  have hfin:=Lib.hid (MS v u);have hcw:Hid (Au (fun k=>k=g) w wr):=Lib.hid (HCH.out.mono (fun _ _ h=>h.elim));go_wp2_with fail;go_loopw [17,18,127] (fun _ _ t wz=>∃k:Nat,k≤8∧t= .int .i64 k∧AT wz g 156 (AK (Fh v u k))∧Au (fun k=>k=g) w wz) (fun _ _ t _=>8 -(intOf t).toNat)
  case atStart=>exact⟨0,Nat.zero_le _,rfl,HBW.out,hcw.out⟩
  case round=>
   obtain⟨k,hk,rfl,h1,h2⟩:=hrel;have H1:=Lib.hid h1;have H2:=Lib.hid h2;clear h1 h2;by_cases hlt:k<8
   ·have e1:(k:Int)<8:=by omega
    have i0:=hix k hlt;have hc:wr.cell? ⟨g,k,none⟩=some (.int .u32 (v.l.getD k 0:Nat)):=by
     rw[H1.out.cell,CZ _ _ (by rw[MR];omega),MT _ _ _ hlt]
    have hf:wr.frozen? ⟨g,k,none⟩=false:=H1.out.frozen k;obtain⟨z,hz⟩: ∃z,z=Bd (v.l.getD k 0) (u.l.getD k 0):=⟨_,rfl⟩;have HN:=Lib.hid (H1.out.set_ k (.int .u32 (z:Int)));rw[Hz,hz,MU,←hz] at HN;have HC:=Lib.hid (H2.out.setCell (p:=⟨g,k,none⟩) (fun _=>rfl) (.int .u32 (z:Int)));generalize v.l.getD k 0=x at*;generalize u.l.getD k 0=y at*;have p1:=Bj x y z hz;clear hz hix;go_wp2_with fail
    go_still_tail 9,(by kernel_rfl)
    change wpList _ _ _ _ _ (World.drew _);go_wp2_with fail;refine⟨?_,by simp[intOf];omega⟩
    (repeat apply Exists.intro);exact⟨⟨k+1,by omega,by go_num,HN.out,HC.out.drew⟩,rfl⟩
   have e1:(8:Int)≤k:=by omega
   obtain rfl:k=8:=by omega
   rw[hfin.out] at H1;go_wp2_with fail
   go_end0
   exact⟨rfl,by rw[←HU.out];exact H1,H2⟩
end Go.Proofs.YtjjhceeookpieaaGreat
end
section
open Go Go.RowKit
namespace Go.Proofs.YtjjhceeookpieaaGreat
def Cq (l:List Nat):List Nat:=l++List.replicate (64 -l.length) 0
theorem Gz (l:List Nat) (h:l.length≤64):(Cq l).length =64:=by simp[Cq];omega
theorem JP (l:List Nat) (x:Nat) (h:l.length<64):(Cq l).set l.length x=Cq (l++[x]):=by
 unfold Cq;rw[List.set_append_right _ _ (Nat.le_refl _),Nat.sub_self,show 64 -l.length=(64 -(l++[x]).length)+1 by simp;omega,List.replicate_succ,sC];simp
theorem Qv (l:List Nat) (i:Nat) (h:i<l.length):(Cq l).getD i 0=l.getD i 0:=by
 simp[Cq,List.getD_eq_getElem?_getD,List.getElem?_append_left h]
theorem NW (l:List Nat) (h:l.length=64):Cq l=l:=by simp[Cq,h]
theorem NX (a b c d:Nat) (_ha:a<256) (hb:b<256) (hc:c<256) (hd:d<256):
    ((a*16777216|||b*65536)|||c*256)|||d=a*16777216+b*65536+c*256+d:=by
 have h1:a*16777216|||b*65536=a*16777216+b*65536:=by
  have:=Nat.two_pow_add_eq_or_of_lt (i:=24) (b:=b*65536) (by omega) a;rw[show 2^24*a=a*16777216 by omega] at this;exact this.symm
 have h2:(a*16777216+b*65536)|||c*256=a*16777216+b*65536+c*256:=by
  have:=Nat.two_pow_add_eq_or_of_lt (i:=16) (b:=c*256) (by omega) (a*256+b);rw[show 2^16*(a*256+b)=a*16777216+b*65536 by omega] at this;exact this.symm
 have h3:(a*16777216+b*65536+c*256)|||d=a*16777216+b*65536+c*256+d:=by
  have:=Nat.two_pow_add_eq_or_of_lt (i:=8) (b:=d) (by omega) (a*65536+b*256+c);rw[show 2^8*(a*65536+b*256+c)=a*16777216+b*65536+c*256 by omega] at this;exact this.symm
 rw[h1,h2,h3]
theorem Tr (A:Option Addr) (c:Nat) (p:List UInt8) (ws:List Nat) (w:World) (hr:Rd w A (bs p)) (hp:p.length=64) (hws:Hid (ws=Bc p 48)):
    Calls Tryz.prog 137 #[.slice A 64 c] w fun e w'=>e= .returned (.agg (AK ws))∧Hid (Au Ab w w'):=by
 have HR:=Lib.hid hr;have HP:=Lib.hid hp;clear hr hp;go_enter Tryz.func137,Tryz.ntmps137;go_wp2_with fail;go_loopw [4,10] (fun _ t wr=>∃k:Nat,k≤16∧t= .int .i64 k∧AT wr (w.heap.size+1) 153 (AK (Cq (De p k)))∧AT wr w.heap.size 153 (AK (Cq []))∧Au Ab w wr) (fun _ t _=>16 -(intOf t).toNat)
 case atStart=>
  refine⟨0,Nat.zero_le _,rfl, ?_, ?_,((Au.refl _ _).alloc _).alloc _⟩
  ·exact AT.new1 w _ _ _
  exact(AT.new w _ _).alloc _
 case round=>
  obtain⟨k,hk,rfl,h1,h2,h3⟩:=hrel;have H1:=Lib.hid h1;have H2:=Lib.hid h2;have H3:=Lib.hid h3;clear h1 h2 h3;by_cases hlt:k<16
  ·have e1:(k:Int)<16:=by omega
   have hcell: ∀j,j<64→∃ad,A=some ad∧wr.cell? (ad.add j)=some (.int .u8 ((p.getD j 0).toNat :Int)):=fun j hj=>by
    obtain⟨ad,b,h1,h2,h3⟩:=(HR.out.later H3.out).byte (k:=j) (by have:=HP.out;omega);refine⟨ad,h1, ?_⟩;rw[h3,List.getD_eq_getElem?_getD,h2];rfl
   obtain⟨ad,rfl,c0⟩:=hcell (4*k) (by omega);obtain⟨_,e,c1⟩:=hcell (4*k+1) (by omega);injection e with e
   subst e;obtain⟨_,e,c2⟩:=hcell (4*k+2) (by omega);injection e with e
   subst e;obtain⟨_,e,c3⟩:=hcell (4*k+3) (by omega);injection e with e
   subst e;have b0:=(p.getD (4*k) 0).toNat_lt;have b1:=(p.getD (4*k+1) 0).toNat_lt;have b2:=(p.getD (4*k+2) 0).toNat_lt;have b3:=(p.getD (4*k+3) 0).toNat_lt;have hw4:MO p k=(p.getD (4*k) 0).toNat *16777216+(p.getD (4*k+1) 0).toNat *65536+(p.getD (4*k+2) 0).toNat *256+(p.getD (4*k+3) 0).toNat :=rfl;generalize(p.getD (4*k) 0).toNat =x0 at*;generalize(p.getD (4*k+1) 0).toNat =x1 at*;generalize(p.getD (4*k+2) 0).toNat =x2 at*;generalize(p.getD (4*k+3) 0).toNat =x3 at*;have HW:=Lib.hid hw4;have hlen:(De p k).length =k:=Jn p k;have hcz:wr.cell? ⟨w.heap.size+1,k,none⟩=some (.int .u32 ((Cq (De p k)).getD k 0:Nat)):=by
    rw[H1.out.cell];exact CZ _ _ (by rw[Gz _ (by omega)];omega)
   have hfz:wr.frozen? ⟨w.heap.size+1,k,none⟩=false:=H1.out.frozen k;obtain⟨j0,hj0⟩: ∃j,j=4*k:=⟨_,rfl⟩;obtain⟨j1,hj1⟩: ∃j,j=4*k+1:=⟨_,rfl⟩;obtain⟨j2,hj2⟩: ∃j,j=4*k+2:=⟨_,rfl⟩;obtain⟨j3,hj3⟩: ∃j,j=4*k+3:=⟨_,rfl⟩;rw[←hj0] at c0;rw[←hj1] at c1;rw[←hj2] at c2;rw[←hj3] at c3;have r0:IntKind.i64.wrap (4*(k:Int))=(j0:Int):=by rw[IntWalk.i64_in _ (by omega)];omega
   have r1:IntKind.i64.wrap ((j0:Int)+1)=(j1:Int):=by rw[IntWalk.i64_in _ (by omega)];omega
   have r2:IntKind.i64.wrap ((j0:Int)+2)=(j2:Int):=by rw[IntWalk.i64_in _ (by omega)];omega
   have r3:IntKind.i64.wrap ((j0:Int)+3)=(j3:Int):=by rw[IntWalk.i64_in _ (by omega)];omega
   have hor:=NX x0 x1 x2 x3 (by omega) (by omega) (by omega) (by omega);rw[←hw4] at hor;have hwl:=NV p k;obtain⟨z3,hz3⟩: ∃z,z=MO p k:=⟨_,rfl⟩;rw[←hz3] at hor hwl;obtain⟨y0,hy0⟩: ∃y,y=x0*16777216:=⟨_,rfl⟩;obtain⟨y1,hy1⟩: ∃y,y=x1*65536:=⟨_,rfl⟩;obtain⟨y2,hy2⟩: ∃y,y=x2*256:=⟨_,rfl⟩;have v0:IntKind.u32.wrap (x0:Int)=(x0:Int):=by rw[Bi];omega
   have v1:IntKind.u32.wrap (x1:Int)=(x1:Int):=by rw[Bi];omega
   have v2:IntKind.u32.wrap (x2:Int)=(x2:Int):=by rw[Bi];omega
   have v3:IntKind.u32.wrap (x3:Int)=(x3:Int):=by rw[Bi];omega
   have u0:IntKind.u32.wrap ((x0:Int)*16777216)=(y0:Int):=by rw[Bi];omega
   have u1:IntKind.u32.wrap ((x1:Int)*65536)=(y1:Int):=by rw[Bi];omega
   have u2:IntKind.u32.wrap ((x2:Int)*256)=(y2:Int):=by rw[Bi];omega
   rw[←hy0,←hy1,←hy2] at hor;obtain⟨z1,hz1⟩: ∃z,z=y0|||y1:=⟨_,rfl⟩
   obtain⟨z2,hz2⟩: ∃z,z=z1|||y2:=⟨_,rfl⟩
   have l1:z1<2^32:=by rw[hz1];exact Nat.or_lt_two_pow (by omega) (by omega)
   have l2:z2<2^32:=by rw[hz2];exact Nat.or_lt_two_pow (by omega) (by omega)
   have t1:=EZ y0 y1 z1 hz1.symm (by omega) (by omega);have t2:=EZ z1 y2 z2 hz2.symm (by omega) (by omega);have t3:=EZ z2 x3 z3 (by rw[hz2,hz1];exact hor) (by omega) (by omega);have HZ:=Lib.hid hz3;have HN:=Lib.hid (H1.out.set_ k (.int .u32 (z3:Int)));have HN2:=Lib.hid (H2.out.far (p:=⟨w.heap.size+1,k,none⟩) (by show w.heap.size≠w.heap.size+1;omega) (.int .u32 (z3:Int)));have HC:=Lib.hid (H3.out.setCell (p:=⟨w.heap.size+1,k,none⟩) (fun h=>by have h':w.heap.size+1<w.heap.size:=h;omega) (.int .u32 (z3:Int)));rw[Hz] at HN;have hps:(Cq (De p k)).set k z3=Cq (De p (k+1)):=by
    rw[Lk,←hz3];have:=JP (De p k) z3 (by omega);rwa[hlen] at this
   rw[hps] at HN;have g0:(j0:Int)<64:=by omega
   have g4:(k:Int)<64:=by omega
   have g1:(j1:Int)<64:=by omega
   have g2:(j2:Int)<64:=by omega
   have g3:(j3:Int)<64:=by omega
   clear hw4 hlen hcell hj0 hj1 hj2 hj3 hor hz3 hy0 hy1 hy2 hz1 hz2 hps;go_wp2_with fail
   go_still_tail 35,(by kernel_rfl)
   change wpList _ _ _ _ _ wr.drew;go_wp2_with fail;exact⟨⟨k+1,by omega,by go_num,HN.out,HN2.out,HC.out.drew⟩,by simp[intOf];omega⟩
  have e1:(16:Int)≤k:=by omega
  obtain rfl:k=16:=by omega
  have H1':Hid (AT wr (w.heap.size+1) 153 (AK (Cq (Bc p 0)))):=H1;clear H1 hk hlt;go_wp2_with fail;go_loopw [5,6,7,8,9] (fun t _ _ _ _ wr=>∃k:Nat,k≤48∧t= .int .i64 ((16+k:Nat):Int)∧AT wr (w.heap.size+1) 153 (AK (Cq (Bc p k)))∧AT wr w.heap.size 153 (AK (Cq []))∧Au Ab w wr) (fun t _ _ _ _ _=>64 -(intOf t).toNat)
  case atStart=>exact⟨0,Nat.zero_le _,rfl,H1'.out,H2.out,H3.out⟩
  case round=>
   obtain⟨k,hk,rfl,h1,h2,h3⟩:=hrel;have H1:=Lib.hid h1;have H2:=Lib.hid h2;have H3:=Lib.hid h3;clear h1 h2 h3;have hlen:(Bc p k).length =16+k:=EG p k;obtain⟨n,hn⟩: ∃n,n=16+k:=⟨_,rfl⟩;rw[←hn];have hn16:16≤n:=by omega
   by_cases hlt:n<64
   ·have e1:(n:Int)<64:=by omega
    have hcell: ∀j,j<n→wr.cell? ⟨w.heap.size+1,j,none⟩=some (.int .u32 ((Bc p k).getD j 0:Nat)):=fun j hj=>by
     rw[H1.out.cell,CZ _ _ (by rw[Gz _ (by omega)];omega),Qv _ _ (by omega)]
    have hlt32: ∀j,(Bc p k).getD j 0<4294967296:=fun j=>Ha (Ll p k) j
    have hnw:Lj (Bc p k) n=Bd (Bd (Bd ((Bc p k).getD (n -16) 0) (Tl ((Bc p k).getD (n -15) 0))) ((Bc p k).getD (n -7) 0)) (Tm ((Bc p k).getD (n -2) 0)):=rfl;have hsc:Bc p (k+1)=Bc p k++[Lj (Bc p k) n]:=by rw[hn];rfl
    obtain⟨i16,hi16⟩: ∃i,i=n -16:=⟨_,rfl⟩;obtain⟨i15,hi15⟩: ∃i,i=n -15:=⟨_,rfl⟩;obtain⟨i7,hi7⟩: ∃i,i=n -7:=⟨_,rfl⟩;obtain⟨i2,hi2⟩: ∃i,i=n -2:=⟨_,rfl⟩;rw[←hi16,←hi15,←hi7,←hi2] at hnw;have c16:=hcell i16 (by omega);have c15:=hcell i15 (by omega);have c7:=hcell i7 (by omega);have c2:=hcell i2 (by omega);have l16:=hlt32 i16;have l15:=hlt32 i15;have l7:=hlt32 i7;have l2:=hlt32 i2;generalize(Bc p k).getD i16 0=x16 at*;generalize(Bc p k).getD i15 0=x15 at*;generalize(Bc p k).getD i7 0=x7 at*;generalize(Bc p k).getD i2 0=x2 at*;have r16:IntKind.i64.wrap ((n:Int) -16)=(i16:Int):=by rw[IntWalk.i64_in _ (by omega)];omega
    have r15:IntKind.i64.wrap ((n:Int) -15)=(i15:Int):=by rw[IntWalk.i64_in _ (by omega)];omega
    have r7:IntKind.i64.wrap ((n:Int) -7)=(i7:Int):=by rw[IntWalk.i64_in _ (by omega)];omega
    have r2:IntKind.i64.wrap ((n:Int) -2)=(i2:Int):=by rw[IntWalk.i64_in _ (by omega)];omega
    have g16:(i16:Int)<64:=by omega
    have g15:(i15:Int)<64:=by omega
    have g7:(i7:Int)<64:=by omega
    have g2:(i2:Int)<64:=by omega
    have hcz:wr.cell? ⟨w.heap.size+1,n,none⟩=some (.int .u32 ((Cq (Bc p k)).getD n 0:Nat)):=by
     rw[H1.out.cell];exact CZ _ _ (by rw[Gz _ (by omega)];omega)
    have hfz:wr.frozen? ⟨w.heap.size+1,n,none⟩=false:=H1.out.frozen n;have HNW:=Lib.hid hnw;have HSC:=Lib.hid hsc;have HNN:=Lib.hid hn;clear hnw hsc hn hcell hlt32 hi16 hi15 hi7 hi2 hlen;go_wp2_with fail
    go_quiet (fail)
    obtain⟨xa,hxa⟩: ∃z,z=CL 7 x15^^^CL 18 x15:=⟨_,rfl⟩;obtain⟨xb,hxb⟩: ∃z,z=CL 17 x2^^^CL 19 x2:=⟨_,rfl⟩;obtain⟨s0,hs0⟩: ∃z,z=Tl x15:=⟨_,rfl⟩;obtain⟨s1,hs1⟩: ∃z,z=Tm x2:=⟨_,rfl⟩;have a1:=@CI 7 x15 l15 (by decide) (by decide);have a2:=@CI 18 x15 l15 (by decide) (by decide);have a3:=@CI 17 x2 l2 (by decide) (by decide);have a4:=@CI 19 x2 l2 (by decide) (by decide);have a5:xa<4294967296:=by rw[hxa];exact Hl a1 a2
    have a6:xb<4294967296:=by rw[hxb];exact Hl a3 a4
    have q1:=Ba _ _ xa hxa a1 a2;have q2:=Ba xa (x15/8) s0 (by rw[hs0,hxa];rfl) a5 (by omega);have q3:=Ba _ _ xb hxb a3 a4;have q4:=Ba xb (x2/1024) s1 (by rw[hs1,hxb];rfl) a6 (by omega);rw[show((x15/8:Nat):Int)=(x15:Int)/8 from rfl] at q2;rw[show((x2/1024:Nat):Int)=(x2:Int)/1024 from rfl] at q4;obtain⟨t1,ht1⟩: ∃z,z=Bd x16 s0:=⟨_,rfl⟩;obtain⟨t2,ht2⟩: ∃z,z=Bd t1 x7:=⟨_,rfl⟩;obtain⟨t3,ht3⟩: ∃z,z=Bd t2 s1:=⟨_,rfl⟩;have p1:=Bj x16 s0 t1 ht1;have p2:=Bj t1 x7 t2 ht2;have p3:=Bj t2 s1 t3 ht3;have HT:Hid (t3=Lj (Bc p k) n):=Lib.hid (by rw[HNW.out,ht3,ht2,ht1,hs0,hs1]);clear hxa hxb hs0 hs1 ht1 ht2 ht3;go_wp2_with fail;replace H1:Hid (AT (wr.drewN nq) (w.heap.size+1) 153 (AK (Cq (Bc p k)))):=H1;replace H2:Hid (AT (wr.drewN nq) w.heap.size 153 (AK (Cq []))):=H2;replace H3:Hid (Au Ab w (wr.drewN nq)):=Lib.hid (H3.out.drewN nq);replace c16:(wr.drewN nq).cell? _=_:=c16;replace c15:(wr.drewN nq).cell? _=_:=c15;replace c7:(wr.drewN nq).cell? _=_:=c7;replace c2:(wr.drewN nq).cell? _=_:=c2;replace hcz:(wr.drewN nq).cell? _=_:=hcz;replace hfz:(wr.drewN nq).frozen? _=_:=hfz;generalize wr.drewN nq=wq at*;have HN:=Lib.hid (H1.out.set_ n (.int .u32 (t3:Int)));have HN2:=Lib.hid (H2.out.far (p:=⟨w.heap.size+1,n,none⟩) (by show w.heap.size≠w.heap.size+1;omega) (.int .u32 (t3:Int)));have HC:=Lib.hid (H3.out.setCell (p:=⟨w.heap.size+1,n,none⟩) (fun h=>by have h':w.heap.size+1<w.heap.size:=h;omega) (.int .u32 (t3:Int)));rw[Hz,show(Cq (Bc p k)).set n t3=Cq (Bc p (k+1)) by
     rw[HSC.out,HT.out];have:=JP (Bc p k) (Lj (Bc p k) n) (by rw[EG];have:=HNN.out;omega);rwa[EG,←HNN.out] at this] at HN
    refine(DL x15 7 _ l15 (by decide) (by decide)).mono ?_;rintro e w2 ⟨rfl,rfl⟩;go_wp2_with fail;refine(DL x15 18 _ l15 (by decide) (by decide)).mono ?_;rintro e w2 ⟨rfl,rfl⟩;go_wp2_with fail;refine(DL x2 17 _ l2 (by decide) (by decide)).mono ?_;rintro e w2 ⟨rfl,rfl⟩;go_wp2_with fail;refine(DL x2 19 _ l2 (by decide) (by decide)).mono ?_;rintro e w2 ⟨rfl,rfl⟩;go_wp2_with fail
    go_still_tail 15,(by kernel_rfl)
    change wpList _ _ _ _ _ (World.drew _);go_wp2_with fail;refine⟨?_,by simp[intOf];omega⟩
    (repeat apply Exists.intro);exact⟨⟨k+1,by have h:=HNN.out;omega,by have h:=HNN.out;congr 1;omega,HN.out,HN2.out,HC.out.drew⟩,rfl⟩
   have e1:(64:Int)≤n:=by omega
   obtain rfl:k=48:=by omega
   have h64:(Bc p 48).length =64:=EG p 48;rw[NW _ h64,←hws.out] at H1;rw[←hws.out] at h64;have hi:(Tryz.prog.info? 153).map (·.size)=some 64:=by kernel_rfl
   have hlen1:(AK (ws)).size =64:=by rw[FC,h64]
   have hlen0:(AK (Cq [])).size =64:=by rw[FC];rfl
   clear hn hlen h64;go_wp2_with (first|(refine wpList_load_row rfl 153 _ rfl (w.heap.size+1) rfl 153 _ (0,0) _ H1.out Tryz.underlying153 rfl (by rw[hlen1];exact hi) ?_)|(refine wpList_store_row rfl 153 _ _ rfl w.heap.size _ rfl rfl 153 _ H2.out (by rw[hlen1];exact hi) (by rw[hlen1];exact hlen0) (EM _) ?_));refine bodyPost_ret (v:= .agg (AK (ws))) (results_cell_row rfl _ _ w.heap.size 153 _ (0,0) _ rfl (H2.out.row_ _) Tryz.underlying153 rfl (by rw[hlen1];exact hi)) rfl ⟨rfl, ?_⟩;exact H3.out.setRow (fun h=>by omega) _
end Go.Proofs.YtjjhceeookpieaaGreat
end
section
open Go Go.RowKit
namespace Go.Proofs.YtjjhceeookpieaaGreat
theorem IU {P:Program} {ops:Array Oper} {rest:List Oper} {o:Oper} {a:Act} {w:World} {Q:Exit→Act→World→Prop} (hg:o.guard=none) (t:TypeId) (parts:Array (Nat×Operand)) (ho:o.op= .build t parts)
    (cs:Array Value) (hf:P.built t (parts.map fun(i,x)=>(i,a.eval x)).toList =some cs) (h:wpList P ops Q rest (a.put o.dst (.agg cs)) w):wpList P ops Q (o::rest) a w:=
 wpList_build hg t parts ho (by rw[hf];rfl) (by rw[hf];exact h)
theorem Dx.part {S:Nat→Prop} {A:Option Addr} {p q:List UInt8} (h:Dx S A (bs p)) (hq:q≠[]→p≠[]):Dx S A (bs q):=fun hne ad e=>
 h (by
  have:q≠[]:=by rintro rfl;exact hne rfl
  have h2:=hq this;intro h3;exact h2 (by simpa[bs] using h3)) ad e
theorem XX {w:World} {a:Addr} {v:Value} (h:w.cell? a=some v):a=⟨a.block,a.off,none⟩:=by
 rcases a with⟨b,o,s⟩
 cases s with
 |none=>rfl
 |some x=>
  unfold World.cell? at h;split at h
  ·simp at h
  cases h
theorem Ade {w:World} {B:Option Addr} {d:Nat} {p:List UInt8} (s:Nat) (hr:Rd w B (bs p)) (hp:p.length≤d):
    Rd w (if d=s then B else B.map fun x=>{block:=x.block,off:=x.off+s}) (bs (p.drop s))∧∀S,Dx S B (bs p)→Dx S (if d=s then B else B.map fun x=>{block:=x.block,off:=x.off+s}) (bs (p.drop s)):=by
 by_cases h:d=s
 ·rw[if_pos h,List.drop_eq_nil_of_le (by omega)];exact⟨Rd.nil _ _,fun S _ hne=>absurd rfl hne⟩
 rw[if_neg h];refine⟨?_,fun S hA=> ?_⟩
 ·intro k u hk;obtain⟨ad,rfl,hc⟩:=hr (s+k) u (by rw[show bs (p.drop s)=(bs p).drop s from List.map_drop,List.getElem?_drop] at hk;exact hk);refine⟨_,rfl, ?_⟩;have e:(({block:=ad.block,off:=ad.off+s}:Addr).add k)=ad.add (s+k):=by
   by_cases h0:s+k=0
   ·obtain rfl:s=0:=by omega
    obtain rfl:k=0:=by omega
    rw[Be] at hc;rw[Be,Be];exact(XX hc).symm
   by_cases hk0:k=0
   ·subst hk0;simp[Addr.add,show s≠0 by omega]
   simp[Addr.add,hk0,Nat.add_assoc]
  rw[e];exact hc
 have hA':=hA.part (q:=p.drop s) (by rintro h rfl;simp at h);intro hne ad e;rcases B with _|ad0
 ·cases e
 injection e with e
 subst e;exact hA' hne ad0 rfl
theorem Rw (w:World):Calls Tryz.prog 71 #[] w fun e w'=>e= .returned (.agg (AK Ec))∧Hid (Au Ab w w'):=by
 go_enter Tryz.func71,Tryz.ntmps71;go_wp2_with (first|(refine IU rfl 153 _ rfl (AK Ec) (by kernel_rfl) ?_)|(refine wpList_store_row rfl 153 _ _ rfl w.heap.size (AK Ec) rfl rfl 153 _ (heap_alloc_new w _) (by kernel_rfl) (by kernel_rfl) (EM _) ?_));refine bodyPost_ret (v:= .agg (AK Ec)) (results_cell_row rfl _ _ w.heap.size 153 (AK Ec) (0,0) _ rfl ((AT.new w _ _).row_ _) Tryz.underlying153 rfl (by kernel_rfl)) rfl ⟨rfl, ?_⟩;exact((Au.refl _ _).alloc _).setRow (fun h=>by omega) _
theorem Me (g gk:Nat) (A:Option Addr) (n c m:Nat) (p:List UInt8) (v:V8) (w:World) (hv:v.ok) (hb:AT w g 156 (AK v.l)) (hk:AT w gk 153 (AK Ec)) (hr:Rd w A (bs p)) (hn:p.length=n) (hm:n=64*m) (hc:n≤c)
    (hA:Dx (fun k=>k=g) A (bs p)) (hgk:gk≠g):
    Calls Tryz.prog 72 #[.pointer (some ⟨g,0,none⟩), .slice A n c, .pointer (some ⟨gk,0,none⟩)] w fun e w'=>e= .returned (.tuple #[])∧
     Hid (AT w' g 156 (AK (Bz m v p).l))∧Hid (Au (fun k=>k=g) w w'):=by
 have HV:=Lib.hid hv;have HB:=Lib.hid hb;have HK:=Lib.hid hk;have HR:=Lib.hid hr;have HN:=Lib.hid hn;have HM:=Lib.hid hm;have HA:=Lib.hid hA;clear hv hb hk hr hn hm hA;go_enter Tryz.func72,Tryz.ntmps72;go_wp2_with fail;go_loopw [1,6] (fun s _ wr=>∃(k l d:Nat) (B:Option Addr),k≤m∧s= .slice B l d∧l=64*(m -k)∧l≤d∧d≤c∧Rd wr B (bs (p.drop (64*k)))∧Dx (fun k=>k=g) B (bs (p.drop (64*k)))∧
     AT wr g 156 (AK (Bz k v p).l)∧Au (fun k=>k=g) w wr) (fun s _ _=>match s with| .slice _ l _=>l|_=>0)
 case atStart=>
  exact⟨0,n,c,A,Nat.zero_le _,rfl,HM.out,hc,Nat.le_refl _,HR.out,HA.out,HB.out,Au.refl _ _⟩
 case round=>
  obtain⟨k,l,d,B,hkm,rfl,hl,hld,hdc,hr,hB,hb,hch⟩:=hrel;have HL:=Lib.hid hl;have HR1:=Lib.hid hr;have HB1:=Lib.hid hB;have HB2:=Lib.hid hb;have HC1:=Lib.hid hch;clear hr hB hb hch;by_cases hlt:k<m
  ·have e1:(64:Int)≤l:=by omega
   have e2:64≤d:=by omega
   have e3:(64:Int)≤d:=by omega
   clear hl;have hp64:((p.drop (64*k)).take 64).length =64:=by
    have:=HN.out;have:=HM.out;simp;omega
   have HP64:=Lib.hid hp64;have HRT:Hid (Rd wr B (bs ((p.drop (64*k)).take 64))):=Lib.hid (by rw[←It];exact HR1.out.take 64);clear hp64;obtain⟨ws,hws⟩: ∃ws,ws=Bc ((p.drop (64*k)).take 64) 48:=⟨_,rfl⟩;have HWS:=Lib.hid hws;clear hws;go_wp2_with fail;refine(Tr B _ _ ws _ HRT.out HP64.out HWS).mono ?_;rintro e w2 ⟨rfl,hc2⟩;have hi:(Tryz.prog.info? 153).map (·.size)=some 64:=by kernel_rfl
   have hwl:ws.length=64:=by rw[HWS.out,EG]
   have hlen1:(AK ws).size =64:=by rw[FC,hwl]
   have HI:=Lib.hid hi;have HWL:=Lib.hid hwl;have HLEN1:=Lib.hid hlen1;clear hi hwl hlen1;go_wp2_with (refine wpList_store_row rfl 153 _ _ rfl w2.heap.size (AK ws) rfl rfl 153 _ (heap_alloc_new w2 _) (by rw[HLEN1.out];exact HI.out) (by rw[HLEN1.out];rfl) (EM _) ?_);rw[World.setRow_alloc_new];have hb2:AT (w2.alloc (.cells (AK ws) 153)) g 156 (AK (Bz k v p).l):=(HB2.out.chg hc2.out (fun h=>h)).alloc _;have hk2:AT (w2.alloc (.cells (AK ws) 153)) gk 153 (AK Ec):=((HK.out.chg HC1.out hgk).chg hc2.out (fun h=>h)).alloc _;refine(Vx g w2.heap.size gk (Bz k v p) ws Ec _ (EX HV.out _ _) hb2 (AT.new w2 _ _) hk2 HWL.out Lm (by rw[HWS.out];exact Ll _ _) WQ).mono ?_;rintro e w3 ⟨rfl,h4,h5⟩;have HST:Hid (AT w3 g 156 (AK (Bz (k+1) v p).l)):=Lib.hid (by
    have h:=h4.out;rw[HWS.out] at h;rw[MP];exact h)
   have HC3:Hid (Au (fun k=>k=g) w w3):=Lib.hid (HC1.out.trans (((hc2.out.alloc (.cells (AK ws) 153)).mono (fun _ _ h=>h.elim)).trans h5.out (fun _ _ h=>h)) (fun _ _ h=>h));have HR3:Hid (Rd w3 B (bs (p.drop (64*k)))):=Lib.hid (((HR1.out.later hc2.out).alloc (.cells (AK ws) 153)).chg h5.out HB1.out);have hcut:=Ade (d:=d) 64 HR3.out (by
    have h1:=HN.out;have h2:=HM.out;have h3:=HL.out;have h4:m -k+k=m:=by omega
    rw[List.length_drop];omega)
   have hcut2:=hcut.2 _ HB1.out;have hcut1:=hcut.1;rw[List.drop_drop] at hcut1 hcut2;have HCUT:=Lib.hid (And.intro hcut1 hcut2);clear h4 h5 hb2 hk2 hcut hcut1 hcut2;go_wp2_with fail;refine⟨⟨k+1,l -64,d -64,_,by omega,rfl,by have:=HL.out;omega,by omega,by omega,HCUT.out.1,HCUT.out.2,HST.out,HC3.out⟩, ?_⟩;show l -64<l;omega
  have e1: ¬(64:Int)≤l:=by omega
  clear hl;go_wp2_with fail
  go_end0
  obtain rfl:k=m:=by omega
  exact⟨rfl,HB2,HC1⟩
end Go.Proofs.YtjjhceeookpieaaGreat
end
section
open Go Go.RowKit
namespace Go.Proofs.YtjjhceeookpieaaGreat
def Dz (v:V8) (i:Nat):UInt8:=UInt8.ofNat (v.l.getD (i/4) 0/2^(24 -8*(i%4)))
def Cy (v:V8) (k:Nat):List UInt8:=(List.range 32).map fun i=>if i<k then Dz v i else 0
theorem MV (v:V8):Cy v 32=Ga v:=by
 unfold Cy Ga Dz;apply List.map_congr_left;intro i hi;rw[if_pos (List.mem_range.1 hi)]
theorem MW (v:V8) (k:Nat):(Aw (Cy v k)).setIfInBounds k (GV (Dz v k))=Aw (Cy v (k+1)):=by
 rw[show GV (Dz v k)= .int .u8 ((Dz v k).toNat :Int) from rfl,Lb]
 congr 1
 apply List.ext_getElem
 ·simp[Cy]
 intro i h1 h2;have hi:i<32:=by simpa[Cy] using h2
 rw[List.getElem_set];simp only[Cy,List.getElem_map,List.getElem_range];by_cases h:k=i
 ·subst h;rw[if_pos rfl,if_pos (by omega)]
 rw[if_neg h];by_cases h3:i<k
 ·rw[if_pos h3,if_pos (by omega)]
 rw[if_neg h3,if_neg (by omega)]
theorem NY (g:Nat) (v:V8) (w:World) (hv:v.ok) (hb:AT w g 156 (AK v.l)):
    Calls Tryz.prog 73 #[.pointer (some ⟨g,0,none⟩)] w fun e w'=>e= .returned (.agg (Aw (Ga v)))∧Hid (Au Ab w w'):=by
 have HB:=Lib.hid hb;have HV:=Lib.hid hv;clear hb hv;go_enter Tryz.func73,Tryz.ntmps73;go_wp2_with fail;go_loopw [4,5] (fun _ t wr=>∃k:Nat,k≤32∧t= .int .i64 k∧AT wr (w.heap.size+1) 23 (Aw (Cy v k))∧AT wr w.heap.size 23 (Aw (Cy v 0))∧Au Ab w wr) (fun _ t _=>32 -(intOf t).toNat)
 case atStart=>
  have h0:Aw (Cy v 0)=Aw (List.replicate 32 0):=by
   rfl
  rw[h0];refine⟨0,Nat.zero_le _,rfl, ?_, ?_,((Au.refl _ _).alloc _).alloc _⟩
  ·exact AT.new1 w _ _ _
  exact(AT.new w _ _).alloc _
 case round=>
  obtain⟨k,hk,rfl,h1,h2,h3⟩:=hrel;have H1:=Lib.hid h1;have H2:=Lib.hid h2;have H3:=Lib.hid h3;clear h1 h2 h3;by_cases hlt:k<32
  ·have e1:(k:Int)<32:=by omega
   have hj:k/4<8:=by omega
   have hcell:wr.cell? ⟨g,k/4,none⟩=some (.int .u32 (v.l.getD (k/4) 0:Nat)):=by
    rw[(HB.out.chg H3.out (fun h=>h)).cell];exact CZ v.l (k/4) hj
   have hx:v.l.getD (k/4) 0<4294967296:=Ha (by
    obtain⟨a1,a2,a3,a4,a5,a6,a7,a8⟩:=HV.out;intro x hx;simp only[V8.l,List.mem_cons,List.not_mem_nil,or_false] at hx;rcases hx with rfl|rfl|rfl|rfl|rfl|rfl|rfl|rfl<;>assumption) _
   obtain⟨x,hxe⟩: ∃x,x=v.l.getD (k/4) 0:=⟨_,rfl⟩;rw[←hxe] at hcell hx;have HX:=Lib.hid hxe;clear hxe;have hcz:wr.cell? ⟨w.heap.size+1,k,none⟩=some (GV ((Cy v k).getD k 0)):=by
    rw[H1.out.cell];have:k<(Cy v k).length :=by simp[Cy];omega
    exact JM _ _ this
   have hfz:wr.frozen? ⟨w.heap.size+1,k,none⟩=false:=H1.out.frozen k;have hval:Hid (Value.int .u8 ((x:Int)/2^(24 -k%4*8)%256)=GV (Dz v k)):=Lib.hid (by
    unfold Dz GV;rw[←HX.out,show 8*(k%4)=k%4*8 by omega];simp)
   have HP:=Lib.hid (H1.out.set_ k (GV (Dz v k)));have HQ:=Lib.hid (H2.out.far (p:=⟨w.heap.size+1,k,none⟩) (by show w.heap.size≠w.heap.size+1;omega) (GV (Dz v k)));have HC:=Lib.hid (H3.out.setCell (p:=⟨w.heap.size+1,k,none⟩) (fun h=>by have h':w.heap.size+1<w.heap.size:=h;omega) (GV (Dz v k)));rw[MW] at HP;go_wp2_with fail;rw[hval.out];exact⟨⟨k+1,by omega,by go_num,HP.out,HQ.out,HC.out⟩,by simp[intOf];omega⟩
  have e1:(32:Int)≤k:=by omega
  obtain rfl:k=32:=by omega
  rw[MV] at H1;have hi:(Tryz.prog.info? 23).map (·.size)=some 32:=by kernel_rfl
  have hlen0:(Aw (Cy v 0)).size =32:=by simp[Dk,Cy]
  have hlen:(Aw (Ga v)).size =32:=by simp[Dk,Ga]
  go_wp2_with (first|(refine wpList_load_row rfl 23 _ rfl (w.heap.size+1) rfl 23 _ (0,0) _ H1.out Tryz.underlying23 rfl (by rw[hlen];exact hi) ?_)|(refine wpList_store_row rfl 23 _ _ rfl w.heap.size _ rfl rfl 23 _ H2.out (by rw[hlen];exact hi) (by rw[hlen];exact hlen0) (Ek _) ?_));refine bodyPost_ret (v:= .agg (Aw (Ga v))) (results_cell_row rfl _ _ w.heap.size 23 _ (0,0) _ rfl (H2.out.row_ _) Tryz.underlying23 rfl (by rw[hlen];exact hi)) rfl ⟨rfl, ?_⟩;exact H3.out.setRow (fun h=>by omega) _
end Go.Proofs.YtjjhceeookpieaaGreat
end
section
open Go Go.RowKit
namespace Go.Proofs.YtjjhceeookpieaaGreat
def AP (n:Nat):List UInt8:=List.replicate n 0
theorem Qw (k r:Nat):(AP k).drop r=AP (k -r):=by unfold AP;rw[List.drop_replicate]
theorem FO (n:Nat):(AP n).length =n:=by simp[AP]
def Vy (N i:Nat):List UInt8:=AP (8 -i)++(Id N).drop (8 -i)
theorem Ts (N i:Nat) (_h:i≤8):(Vy N i).length =8:=by
 simp[Vy,AP,Id]
 try omega
theorem ZY (N i:Nat) (h:i<8):(Vy N i).set (7 -i) (UInt8.ofNat (N/2^(8*i)))=Vy N (i+1):=by
 rcases(show i=0∨i=1∨i=2∨i=3∨i=4∨i=5∨i=6∨i=7 by omega) with rfl|rfl|rfl|rfl|rfl|rfl|rfl|rfl<;>rfl
theorem Vz (N:Nat):Vy N 0=AP 8:=rfl
theorem ZZ (N:Nat):Vy N 8=Id N:=rfl
def Db (p:List UInt8) (N to i:Nat):List UInt8:=p++[128]++AP (to -p.length -9)++Vy N i++AP (128 -to)
theorem Iy (p:List UInt8) (N to i:Nat) (h:i≤8) (hp:p.length+9≤to) (ht:to≤128):(Db p N to i).length =128:=by
 simp[Db,Ts N i h,FO];omega
theorem NZ (p:List UInt8) (N to i:Nat) (h:i<8) (hp:p.length+9≤to):(Db p N to i).set (to -1 -i) (UInt8.ofNat (N/2^(8*i)))=Db p N to (i+1):=by
 have hl:(p++[128]++AP (to -p.length -9)).length =to -8:=by simp[FO];omega
 unfold Db;rw[List.set_append_left _ _ (by simp[Ts N i (by omega),FO];omega),List.set_append_right _ _ (by rw[hl];omega),hl,
  show to -1 -i -(to -8)=7 -i by omega,ZY N i h]
theorem Lo (p:List UInt8) (N to:Nat) (hp:p.length+9≤to) (ht:to≤128):(p++AP (128 -p.length)).set p.length 128=Db p N to 0:=by
 unfold Db;rw[List.set_append_right _ _ (Nat.le_refl _),Nat.sub_self,Vz];have e1:AP (128 -p.length)=(0:UInt8)::(AP (to -p.length -9)++AP 8++AP (128 -to)):=by
  unfold AP;rw[List.replicate_append_replicate,List.replicate_append_replicate,←List.replicate_succ]
  congr 1
  omega
 rw[e1];simp
theorem MX (p:List UInt8) (N to:Nat) (hp:p.length+9≤to):(Db p N to 8).take to=p++[128]++AP (to -p.length -9)++Id N:=by
 unfold Db;rw[ZZ,List.take_left' (by simp[FO,Id];omega)]
theorem Qx (p q r:List UInt8) (m to:Nat) (hpq:p=q++r) (hq:q.length=64*m) (hr:r.length<64) (hto:to=if r.length+9≤64 then 64 else 128):
    Ga (Bz (to/64) (Bz m Dl q) (r++[128]++AP (to -r.length -9)++Id (8*p.length)))=MQ p:=by
 have hn:p.length=64*m+r.length:=by rw[hpq,List.length_append,hq]
 have hz:Rv p.length=to -r.length -9:=by
  unfold Rv;rw[hn,hto];split<;>omega
 have hm:(p.length+72)/64=m+to/64:=by
  rw[hn,hto];split<;>omega
 have hp:DF p=q++(r++[128]++AP (to -r.length -9)++Id (8*p.length)):=by
  unfold DF;rw[hz]
  conv=>lhs;rw[show p++[128]=q++(r++[128]) by rw[hpq,List.append_assoc]]
  simp[AP,Jo]
 unfold MQ;rw[hm,hp,Vu,Tn _ _ _ _ hq,List.drop_left' hq]
theorem MY (A:Option Addr) (n c:Nat) (p:List UInt8) (w:World) (hr:Rd w A (bs p)) (hn:p.length=n) (hc:n≤c) (hn9:n≤140737488351232):
    Calls Tryz.prog 34 #[.slice A n c] w fun e w'=>e= .returned (.agg (Aw (MQ p)))∧Hid (Au Ab w w'):=by
 have HR:=Lib.hid hr;have HN:=Lib.hid hn;have hi60:=Lib.hid (show(Tryz.prog.info? 153).map (·.size)=some 64 by kernel_rfl);have hi25:=Lib.hid (show(Tryz.prog.info? 23).map (·.size)=some 32 by kernel_rfl);have hlk:=Lib.hid (show(AK Ec).size =64 by rw[FC,Lm]);obtain⟨m,hm⟩: ∃m,m=n/64:=⟨_,rfl⟩;have hq:((n:Int)/64)=(m:Int):=by rw[hm];rfl
 have hmn:64*m≤n:=by omega
 have hmn2:n<64*m+64:=by omega
 obtain⟨W,hW⟩: ∃W,W=64*m:=⟨_,rfl⟩;have hq2:((m:Int)*64)=(W:Int):=by omega
 have HW:=Lib.hid hW;have hWn:W≤n:=by omega
 have hWn2:n<W+64:=by omega
 have hWc:W≤c:=by omega
 have HM:=Lib.hid hm;clear hr hn hm hW hmn hmn2;go_enter Tryz.func34,Tryz.ntmps34;go_wp2_with fail;refine(Rw _).mono ?_;rintro e w1 ⟨rfl,h1⟩;have HC1:=Lib.hid (((Au.refl Ab w).alloc _).step h1.out (fun _ h=>h.elim));go_wp2_with (refine wpList_store_row rfl 153 _ _ rfl w1.heap.size (AK Ec) rfl rfl 153 _ (heap_alloc_new w1 _) (by rw[hlk.out];exact hi60.out) (by rw[hlk.out];rfl) (EM _) ?_);rw[World.setRow_alloc_new];have hpt:(p.take W).length =W:=by rw[List.length_take,HN.out];omega
 refine(Me (w1.heap.size+1) w1.heap.size A W c m (p.take W) Dl _ FD (AT.new1 w1 _ _ _) ((AT.new w1 _ _).alloc _) ?_ hpt HW.out hWc ?_ (by omega)).mono ?_
 ·rw[←It];exact(((HR.out.take W).later HC1.out).alloc _).alloc _
 ·exact(HR.out.apart (S:=fun k=>k=w1.heap.size+1) (fun k hk=>by have:=HC1.out.size;omega)).part (by rintro h rfl;simp at h)
 rintro e w2 ⟨rfl,h2,h3⟩;have HRES:Hid (AT w2 w.heap.size 23 (Aw (AP 32))):=Lib.hid (by
  have b1:AT (w.alloc (.cells (Aw (AP 32)) 23)) w.heap.size 23 (Aw (AP 32)):=AT.new w _ _;have hz:=HC1.out.size;have hz1:=h1.out.size;simp at hz1;exact(((b1.chg h1.out (fun h=>h)).alloc _).alloc _).chg h3.out (fun h=>by omega))
 have HKK:Hid (AT w2 w1.heap.size 153 (AK Ec)):=Lib.hid (((AT.new w1 _ _).alloc _).chg h3.out (fun h=>by omega));have HC2:Hid (Au Ab w w2):=Lib.hid ((((HC1.out.alloc _).alloc _)).step h3.out (fun k hk=>by have:=HC1.out.size;omega));have hz1:w.heap.size<w1.heap.size:=by
  have h:=h1.out.size;simp at h;omega
 have hz2:w1.heap.size+1<w2.heap.size:=by
  have h:=h3.out.size;simp at h;omega
 clear h1 h3;have hz66: Tryz.zeroCells159=Aw (AP 128):=by kernel_rfl
 go_wp2_with fail;clear hz66;obtain⟨w3,hw3⟩: ∃w3,w3=w2.alloc (.cells (Aw (AP 128)) 159):=⟨_,rfl⟩;rw[←hw3];obtain⟨z0,hz0⟩: ∃z,z=w.heap.size:=⟨_,rfl⟩;obtain⟨z1,hz1e⟩: ∃z,z=w1.heap.size:=⟨_,rfl⟩;obtain⟨z3,hz3e⟩: ∃z,z=w2.heap.size:=⟨_,rfl⟩;have HE:Hid (AT w3 z3 159 (Aw (AP 128))):=Lib.hid (by rw[hw3,hz3e];exact AT.new w2 _ _);have HRES3:Hid (AT w3 z0 23 (Aw (AP 32))):=Lib.hid (by rw[hw3,hz0];exact HRES.out.alloc _);have HK3:Hid (AT w3 z1 153 (AK Ec)):=Lib.hid (by rw[hw3,hz1e];exact HKK.out.alloc _);have HS3:Hid (AT w3 (z1+1) 156 (AK (Bz m Dl (p.take W)).l)):=Lib.hid (by rw[hw3,hz1e];exact h2.out.alloc _);have HC3:Hid (Au Ab w w3):=Lib.hid (by rw[hw3];exact HC2.out.alloc _);rw[←hz0,←hz1e,←hz3e];rw[←hz0,←hz1e] at hz1;rw[←hz1e,←hz3e] at hz2;have HZ0:=Lib.hid hz0;clear hw3 hz1e hz3e HRES HKK HC2 h2 HC1 hz0 hpt;have hrcA:c=W→Rd w3 A (bs (p.drop W)):=fun h=>by
  rw[List.drop_eq_nil_of_le (by have:=HN.out;omega)];exact Rd.nil _ _
 have hrcB:Rd w3 (A.map (·.add W)) (bs (p.drop W)):=by
  have h:=(HR.out.later HC3.out).drop W;rwa[show(bs p).drop W=bs (p.drop W) from List.map_drop.symm] at h
 have HXL:Hid ((p.drop W).length =n -W):=Lib.hid (by rw[List.length_drop,HN.out]);have hxl64:n -W≤128:=by omega
 have hrle:n -W<64:=by omega
 have HFIT:Hid (0+(n -W)≤(AP 128).length):=Lib.hid (by rw[FO];omega);have hor:(c=W∧Hid (Rd w3.drew A (bs (p.drop W))))∨(¬c=W∧Hid (Rd w3.drew (A.map (·.add W)) (bs (p.drop W)))):=by
  by_cases hcw:c=W
  ·exact .inl ⟨hcw,hrcA hcw⟩
  exact .inr ⟨hcw,hrcB⟩
 clear hrcA hrcB;replace HE:Hid (AT w3.drew z3 159 (Aw (AP 128))):=HE;replace HRES3:Hid (AT w3.drew z0 23 (Aw (AP 32))):=HRES3;replace HK3:Hid (AT w3.drew z1 153 (AK Ec)):=HK3;replace HS3:Hid (AT w3.drew (z1+1) 156 (AK (Bz m Dl (p.take W)).l)):=HS3;replace HC3:Hid (Au Ab w w3.drew):=Lib.hid HC3.out.drew;rcases hor with⟨hcW,HB⟩|⟨hcW,HB⟩
 all_goals
  go_still_tail 4,(by kernel_rfl)
  change wpList _ _ _ _ _ (World.drew w3);generalize World.drew w3=w4 at*;go_wp2_with (refine Gq rfl (.tmp 21) (.tmp 24) 55 55 rfl 5 Tryz.underlying55 (by kernel_rfl) rfl rfl HE.out HB.out HXL hxl64 HFIT ?_);intro w5 hE5 hC5;obtain⟨r,hr⟩: ∃r,r=n -W:=⟨_,rfl⟩;obtain⟨rp,hrp⟩: ∃rp,rp=p.drop W:=⟨_,rfl⟩;rw[←hr] at hE5 HXL hrle hxl64⊢;rw[←hrp] at hE5 HXL;have hsplit:p=p.take W++rp:=by rw[hrp,List.take_append_drop]
  have hqlen:(p.take W).length =64*m:=by rw[List.length_take,HN.out,←HW.out];omega
  have HSPLIT:=Lib.hid hsplit;have HQLEN:=Lib.hid hqlen;have HHR:=Lib.hid hr;have hE5':Hid (AT w5 z3 159 (Aw (rp++AP (128 -r)))):=by
   rw[←Qw];exact hE5
  have hcr:w5.cell? ⟨z3,r,none⟩=some (.int .u8 (((rp++AP (128 -r)).getD r 0).toNat :Int)):=by
   rw[hE5'.out.cell];exact JM _ _ (by simp[AP,HXL.out];omega)
  have hfr:w5.frozen? ⟨z3,r,none⟩=false:=hE5'.out.frozen r;have hr128:(r:Int)<128:=by omega
  have hE6:=hE5'.out.set_ r (.int .u8 ((128:UInt8).toNat :Int));rw[Lb] at hE6;have HE6:=Lib.hid hE6;have HC6:Hid (Au (fun k=>k=z3) w4 (w5.setCell ⟨z3,r,none⟩ (.int .u8 128))):=Lib.hid (hC5.out.setCell (p:=⟨z3,r,none⟩) (fun _=>rfl) _);clear hr hrp hsplit hqlen hE5 hE5' hC5 hE6;obtain⟨N,hN⟩: ∃N,N=8*n:=⟨_,rfl⟩;have hNq:(n:Int)*8=(N:Int):=by omega
  have HNN:=Lib.hid hN;have hN9:N≤1125899906809856:=by omega
  clear hN;by_cases h55:r+9≤64
  ·have e1: ¬(64:Int)<r+1+8:=by omega
   have hto9:rp.length+9≤64:=by have:=HXL.out;omega
   have HSTART:Hid (AT (w5.setCell ⟨z3,r,none⟩ (.int .u8 128)) z3 159 (Aw (Db rp N 64 0))):=by
    rw[←Lo rp N 64 hto9 (by decide),HXL.out];exact HE6
   have HTO9:=Lib.hid hto9;clear hto9 HE6;go_wp2_with fail;go_loopw [9,10] (fun t d wr=>∃i:Nat,i≤8∧t= .int .i64 i∧d= .int .u64 ((N/2^(8*i):Nat):Int)∧AT wr z3 159 (Aw (Db rp N 64 i))∧Au (fun k=>k=z3) w4 wr) (fun t _ _=>8 -(intOf t).toNat)
   case atStart=>exact⟨0,Nat.zero_le _,rfl,by simp,HSTART.out,HC6.out⟩
   case round=>
    obtain⟨i,hi,rfl,rfl,h1,h2⟩:=hrel;have H1:=Lib.hid h1;have H2:=Lib.hid h2;clear h1 h2;by_cases hlt:i<8
    ·have e2:(i:Int)<8:=by omega
     have hx9:N/2^(8*i)≤1125899906809856:=Nat.le_trans (Nat.div_le_self _ _) hN9;have hnx:N/2^(8*(i+1))=N/2^(8*i)/256:=by
      rw[Nat.div_div_eq_div_mul,show(256:Nat)=2^8 from rfl,←Nat.pow_add]
      congr 1
     obtain⟨x,hx⟩: ∃x,x=N/2^(8*i):=⟨_,rfl⟩;rw[←hx] at hx9 hnx⊢;have hcell:wr.cell? ⟨z3,64 -1 -i,none⟩=some (.int .u8 (((Db rp N 64 i).getD (64 -1 -i) 0).toNat :Int)):=by
      rw[H1.out.cell];exact JM _ _ (by rw[Iy _ _ _ _ (by omega) HTO9.out (by decide)];omega)
     have hfz:wr.frozen? ⟨z3,64 -1 -i,none⟩=false:=H1.out.frozen _;have hst:=H1.out.set_ (64 -1 -i) (.int .u8 ((UInt8.ofNat (N/2^(8*i))).toNat :Int));rw[Lb,NZ _ _ _ _ hlt HTO9.out,←hx] at hst;have hv:((UInt8.ofNat x).toNat :Int)=(x:Int)%256:=by simp
     rw[hv] at hst;have hch:=H2.out.setCell (p:=⟨z3,64 -1 -i,none⟩) (fun _=>rfl) (.int .u8 ((x:Int)%256));rw[show 64 -1 -i=63 -i by omega] at hcell hfz hst hch;have HST:=Lib.hid hst;have HCH:=Lib.hid hch;have HNX:=Lib.hid hnx;have e3:(0:Int)≤63 -i:=by omega
     have e4:((63:Int) -(i:Int)).toNat =63 -i:=by omega
     clear hst hch hnx hx hv;go_wp2_with fail;exact⟨⟨i+1,by omega,by go_num,by rw[HNX.out];rfl,HST.out,HCH.out⟩,by simp[intOf];omega⟩
    have e2:(8:Int)≤i:=by omega
    obtain rfl:i=8:=by omega
    have htl:((Db rp N 64 8).take 64).length =64:=by rw[List.length_take,Iy _ _ _ _ (by decide) HTO9.out (by decide)];decide
    have hrd:Rd wr (some ⟨z3,0,none⟩) (bs ((Db rp N 64 8).take 64)):=by
     rw[←It];exact(Iv H1.out).take 64
    have HRD:=Lib.hid hrd;have HTL:=Lib.hid htl;have HSS:Hid (AT wr (z1+1) 156 (AK (Bz m Dl (p.take W)).l)):=Lib.hid (HS3.out.chg H2.out (fun h=>by omega));have HKS:Hid (AT wr z1 153 (AK Ec)):=Lib.hid (HK3.out.chg H2.out (fun h=>by omega));have HRS:Hid (AT wr z0 23 (Aw (AP 32))):=Lib.hid (HRES3.out.chg H2.out (fun h=>by omega));have HFIN:Hid (Ga (Bz (64/64) (Bz m Dl (p.take W)) ((Db rp N 64 8).take 64))=MQ p):=Lib.hid (by
     rw[MX _ _ _ HTO9.out];have h:=Qx p (p.take W) rp m 64 HSPLIT.out HQLEN.out (by have:=HXL.out;omega) (if_pos (by have:=HXL.out;omega)).symm;rw[HN.out,←HNN.out] at h;exact h)
    clear hrd htl;go_wp2_with fail;refine(Me (z1+1) z1 _ 64 128 (64/64) ((Db rp N 64 8).take 64) _ _ (EX FD _ _) HSS.out HKS.out HRD.out HTL.out (by decide) (by decide) (fun _ ad e=>by injection e with e;subst e;show ¬z3=z1+1;omega) (by omega)).mono ?_;rintro e w7 ⟨rfl,h7,hc7⟩;have HR7:Hid (AT w7 z0 23 (Aw (AP 32))):=Lib.hid (HRS.out.chg hc7.out (fun h=>by omega));have hlen1:(Aw (MQ p)).size =32:=by rw[Dk,JO]
    have HLEN1:=Lib.hid hlen1;clear hlen1;go_wp2_with fail;refine(NY (z1+1) _ _ (EX (EX FD _ _) _ _) h7.out).mono ?_;rintro e w8 ⟨rfl,hc8⟩;rw[HFIN.out];have HR8:Hid (AT w8 z0 23 (Aw (AP 32))):=Lib.hid (HR7.out.chg hc8.out (fun h=>h));go_wp2_with (refine wpList_store_row rfl 23 _ _ rfl z0 _ rfl rfl 23 _ HR8.out (by rw[HLEN1.out];exact hi25.out) (by rw[HLEN1.out];rfl) (Ek _) ?_);refine bodyPost_ret (v:= .agg (Aw (MQ p))) (results_cell_row rfl _ _ z0 23 _ (0,0) _ rfl (HR8.out.row_ _) Tryz.underlying23 rfl (by rw[HLEN1.out];exact hi25.out)) rfl ⟨rfl, ?_⟩;have hz0:=HZ0.out;have hw4:=HC3.out.size;exact((((HC3.out.step H2.out (fun k hk=>by omega)).step hc7.out (fun k hk=>by omega)).step hc8.out (fun _ h=>h.elim)).setRow (fun h=>by omega) _)
  have e1:(64:Int)<r+1+8:=by omega
  have hto9:rp.length+9≤128:=by have:=HXL.out;omega
  have HSTART:Hid (AT (w5.setCell ⟨z3,r,none⟩ (.int .u8 128)) z3 159 (Aw (Db rp N 128 0))):=by
   rw[←Lo rp N 128 hto9 (by decide),HXL.out];exact HE6
  have HTO9:=Lib.hid hto9;clear hto9 HE6;go_wp2_with fail;go_loopw [9,10] (fun t d wr=>∃i:Nat,i≤8∧t= .int .i64 i∧d= .int .u64 ((N/2^(8*i):Nat):Int)∧AT wr z3 159 (Aw (Db rp N 128 i))∧Au (fun k=>k=z3) w4 wr) (fun t _ _=>8 -(intOf t).toNat)
  case atStart=>exact⟨0,Nat.zero_le _,rfl,by simp,HSTART.out,HC6.out⟩
  case round=>
   obtain⟨i,hi,rfl,rfl,h1,h2⟩:=hrel;have H1:=Lib.hid h1;have H2:=Lib.hid h2;clear h1 h2;by_cases hlt:i<8
   ·have e2:(i:Int)<8:=by omega
    have hx9:N/2^(8*i)≤1125899906809856:=Nat.le_trans (Nat.div_le_self _ _) hN9;have hnx:N/2^(8*(i+1))=N/2^(8*i)/256:=by
     rw[Nat.div_div_eq_div_mul,show(256:Nat)=2^8 from rfl,←Nat.pow_add]
     congr 1
    obtain⟨x,hx⟩: ∃x,x=N/2^(8*i):=⟨_,rfl⟩;rw[←hx] at hx9 hnx⊢;have hcell:wr.cell? ⟨z3,128 -1 -i,none⟩=some (.int .u8 (((Db rp N 128 i).getD (128 -1 -i) 0).toNat :Int)):=by
     rw[H1.out.cell];exact JM _ _ (by rw[Iy _ _ _ _ (by omega) HTO9.out (by decide)];omega)
    have hfz:wr.frozen? ⟨z3,128 -1 -i,none⟩=false:=H1.out.frozen _;have hst:=H1.out.set_ (128 -1 -i) (.int .u8 ((UInt8.ofNat (N/2^(8*i))).toNat :Int));rw[Lb,NZ _ _ _ _ hlt HTO9.out,←hx] at hst;have hv:((UInt8.ofNat x).toNat :Int)=(x:Int)%256:=by simp
    rw[hv] at hst;have hch:=H2.out.setCell (p:=⟨z3,128 -1 -i,none⟩) (fun _=>rfl) (.int .u8 ((x:Int)%256));rw[show 128 -1 -i=127 -i by omega] at hcell hfz hst hch;have HST:=Lib.hid hst;have HCH:=Lib.hid hch;have HNX:=Lib.hid hnx;have e3:(0:Int)≤127 -i:=by omega
    have e4:((127:Int) -(i:Int)).toNat =127 -i:=by omega
    clear hst hch hnx hx hv;go_wp2_with fail;exact⟨⟨i+1,by omega,by go_num,by rw[HNX.out];rfl,HST.out,HCH.out⟩,by simp[intOf];omega⟩
   have e2:(8:Int)≤i:=by omega
   obtain rfl:i=8:=by omega
   have htl:((Db rp N 128 8).take 128).length =128:=by rw[List.length_take,Iy _ _ _ _ (by decide) HTO9.out (by decide)];decide
   have hrd:Rd wr (some ⟨z3,0,none⟩) (bs ((Db rp N 128 8).take 128)):=by
    rw[←It];exact(Iv H1.out).take 128
   have HRD:=Lib.hid hrd;have HTL:=Lib.hid htl;have HSS:Hid (AT wr (z1+1) 156 (AK (Bz m Dl (p.take W)).l)):=Lib.hid (HS3.out.chg H2.out (fun h=>by omega));have HKS:Hid (AT wr z1 153 (AK Ec)):=Lib.hid (HK3.out.chg H2.out (fun h=>by omega));have HRS:Hid (AT wr z0 23 (Aw (AP 32))):=Lib.hid (HRES3.out.chg H2.out (fun h=>by omega));have HFIN:Hid (Ga (Bz (128/64) (Bz m Dl (p.take W)) ((Db rp N 128 8).take 128))=MQ p):=Lib.hid (by
    rw[MX _ _ _ HTO9.out];have h:=Qx p (p.take W) rp m 128 HSPLIT.out HQLEN.out (by have:=HXL.out;omega) (if_neg (by have:=HXL.out;omega)).symm;rw[HN.out,←HNN.out] at h;exact h)
   clear hrd htl;go_wp2_with fail;refine(Me (z1+1) z1 _ 128 128 (128/64) ((Db rp N 128 8).take 128) _ _ (EX FD _ _) HSS.out HKS.out HRD.out HTL.out (by decide) (by decide) (fun _ ad e=>by injection e with e;subst e;show ¬z3=z1+1;omega) (by omega)).mono ?_;rintro e w7 ⟨rfl,h7,hc7⟩;have HR7:Hid (AT w7 z0 23 (Aw (AP 32))):=Lib.hid (HRS.out.chg hc7.out (fun h=>by omega));have hlen1:(Aw (MQ p)).size =32:=by rw[Dk,JO]
   have HLEN1:=Lib.hid hlen1;clear hlen1;go_wp2_with fail;refine(NY (z1+1) _ _ (EX (EX FD _ _) _ _) h7.out).mono ?_;rintro e w8 ⟨rfl,hc8⟩;rw[HFIN.out];have HR8:Hid (AT w8 z0 23 (Aw (AP 32))):=Lib.hid (HR7.out.chg hc8.out (fun h=>h));go_wp2_with (refine wpList_store_row rfl 23 _ _ rfl z0 _ rfl rfl 23 _ HR8.out (by rw[HLEN1.out];exact hi25.out) (by rw[HLEN1.out];rfl) (Ek _) ?_);refine bodyPost_ret (v:= .agg (Aw (MQ p))) (results_cell_row rfl _ _ z0 23 _ (0,0) _ rfl (HR8.out.row_ _) Tryz.underlying23 rfl (by rw[HLEN1.out];exact hi25.out)) rfl ⟨rfl, ?_⟩;have hz0:=HZ0.out;have hw4:=HC3.out.size;exact((((HC3.out.step H2.out (fun k hk=>by omega)).step hc7.out (fun k hk=>by omega)).step hc8.out (fun _ h=>h.elim)).setRow (fun h=>by omega) _)
theorem KG (A:Option Addr) (n c:Nat) (p:List UInt8) (w:World) (hr:Rd w A (bs p)) (hn:p.length=n) (hc:n≤c) (hn9:n≤1000000000):
    Calls Tryz.prog 34 #[.slice A n c] w fun e w'=>e= .returned (.agg (Aw (MQ p)))∧Hid (Au Ab w w'):=MY A n c p w hr hn hc (by omega)
end Go.Proofs.YtjjhceeookpieaaGreat
end
