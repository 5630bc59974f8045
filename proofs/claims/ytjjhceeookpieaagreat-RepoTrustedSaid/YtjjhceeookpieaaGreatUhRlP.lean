/- UhRlP, UhRlR, UhRlS -/
import Derived.Test.YtjjhceeookpieaaGreatUhRlN
import Derived.Test.YtjjhceeookpieaaGreatUhFwM
import Derived.Test.YtjjhceeookpieaaGreatUhZ
section
open Go Go.RowKit
namespace Go.Proofs.YtjjhceeookpieaaGreat
structure TOk (T:List Ad):Prop where
 rise:Fn T
 may: ∀t∈T,OR t=true
 len:T.length≤16
theorem TOk.nil:TOk []:=⟨fun i j _ h=>absurd h (Nat.not_lt_zero _),fun t h=>(by cases h),Nat.zero_le _⟩
theorem Aej {T:List Ad} (h:TOk T) (t:Ad):TOk (Agb T t):=by
 have hp:=Aga (x:=GK t.l t.ecu) h.rise;obtain⟨k,hk⟩: ∃k,k=plc T (GK t.l t.ecu):=⟨_,rfl⟩;unfold Agb;rw[←hk] at hp⊢;unfold KT;cases hm:OR t
 ·exact h
 cases hi:Ui T (GK t.l t.ecu) k
 ·by_cases h16:16≤T.length
  ·rw[if_pos rfl,if_neg (by decide),if_pos h16];exact h
  rw[if_pos rfl,if_neg (by decide),if_neg h16];refine⟨YV h.rise hp hi,fun x hx=> ?_, ?_⟩
  ·have hx':x∈T.take k++t::T.drop k:=hx;rcases List.mem_append.1 hx' with h1|h1
   ·exact h.may x (List.mem_of_mem_take h1)
   rcases List.mem_cons.1 h1 with h1|h1
   ·rw[h1];exact hm
   exact h.may x (List.mem_of_mem_drop h1)
  show(Ik T k t).length ≤16;rw[NF _ _ _ hp.1];omega
 rw[if_pos rfl,if_pos rfl];obtain⟨h1,h2⟩:=(NG _ _ _).1 hi;refine⟨YW h.rise h1 ⟨h2.1,h2.2⟩,fun x hx=> ?_, ?_⟩
 ·rcases List.mem_or_eq_of_mem_set hx with h3|h3
  ·exact h.may x h3
  rw[h3];exact hm
 show(T.set k t).length ≤16;rw[List.length_set];exact h.len
theorem Aek {T:List Ad} (h:TOk T) (nm ecu:List UInt8):TOk (Agc T nm ecu):=by
 unfold Agc;obtain⟨k,hk⟩: ∃k,k=plc T (GK nm ecu):=⟨_,rfl⟩;rw[←hk];unfold OE;cases hi:Ui T (GK nm ecu) k
 ·exact h
 rw[if_pos rfl];obtain⟨h1,h2⟩:=(NG _ _ _).1 hi;have hl:=RY h1;refine⟨YX h.rise h1,fun x hx=> ?_, ?_⟩
 ·have hx':x∈T.take k++T.drop (k+1):=hx;rcases List.mem_append.1 hx' with h3|h3
  ·exact h.may x (List.mem_of_mem_take h3)
  exact h.may x (List.mem_of_mem_drop h3)
 show(Ke T k).length ≤16;have:=h.len;omega
def thB (T:List Ad) (t:Ad):Nat→Bool
 |0=>false
 |k+1=>thB T t k||VB (gt T k) t
end Go.Proofs.YtjjhceeookpieaaGreat
end
section
set_option maxRecDepth 100000
set_option maxHeartbeats 3200000
open Go Go.RowKit
namespace Go.Proofs.YtjjhceeookpieaaGreat
structure Ly where
 kind:Int
 t:Ad
 now:Int
 life:Int
instance Ajp:Af Ly:=⟨40,fun k=> .int .i64 k.kind::(Af.enc k.t++[.int .i64 k.now, .int .i64 k.life]),fun k=>by
 have h:(Af.enc k.t).length =37:=Af.len k.t;rw[List.length_cons,List.length_append,h];rfl,fun k u hu=>by
 rcases List.mem_cons.1 hu with rfl|hu
 ·rfl
 rcases List.mem_append.1 hu with hu|hu
 ·exact Af.one k.t u hu
 simp only[List.mem_cons,List.not_mem_nil,or_false] at hu;rcases hu with rfl|rfl<;>rfl,⟨0,Af.zero,0,0⟩⟩
theorem Ab7 (r:Ly) (i:Nat) (v:Value) (h:Eg (Af.enc r.t) i=some v) (hi:i<37):Eg (Af.enc r) (i+1)=some v:=by
 have hl:(Af.enc r.t).length =37:=Af.len r.t;rw[←Bp] at h⊢;show(Value.int .i64 r.kind::(Af.enc r.t++[.int .i64 r.now, .int .i64 r.life]))[i+1]? =_;rw[List.getElem?_cons_succ,List.getElem?_append_left (by rw[hl];exact hi)];exact h
theorem Ai5 (r:Ly):Eg (Af.enc r) 1=some (.string (Al r.t.l)):=Ab7 r 0 _ (Dn _) (by decide)
theorem Ai6 (r:Ly):Eg (Af.enc r) 35=some (.string (Al r.t.hw)):=Ab7 r 34 _ (Gg _) (by decide)
theorem Afc (r:Ly):Eg (Af.enc r) 37=some (.string (Al r.t.ecu)):=Ab7 r 36 _ (EK _) (by decide)
theorem Alx (r:Ly):((Af.enc r).drop 1).take 37=Af.enc r.t:=by
 show(Af.enc r.t++[Value.int .i64 r.now,Value.int .i64 r.life]).take 37=_;exact List.take_left' (Af.len r.t)
def Age:Array Value:=(#[.int .i64 0]:Array Value)++BZ++(#[.int .i64 0, .int .i64 0]:Array Value)
instance Ajq:Bm Tryz.prog 24 46 40 120 (.agg Age):=⟨⟨Tryz.underlying24,by kernel_rfl,by kernel_rfl,by decide⟩⟩
theorem RZ {A:Option Addr} {n c:Nat} {P:List Ly} {w:World} [hr:HR w A (cellsOf P)] (hl:P.length=n) (hn9:n≤9223372036854775807):
    Calls Tryz.prog 5 #[.slice A n c] w fun e w'=>(e= .returned (.bool true)∨e= .returned (.bool false))∧Ag Ab w w':=by
 have HRR:=Lib.hid hr.out;go_enter Tryz.func5,Tryz.ntmps5;go_wp2_with fail;go_loopw [3,4] (fun nv iv wr=>∃(k:Nat) (z:Int),k≤n∧iv= .int .i64 (k:Int)∧nv= .int .i64 z∧Ag Ab w wr) (fun _ iv _=>n -(intOf iv).toNat)
 case atStart=>exact⟨0,0,Nat.zero_le _,rfl,rfl,Aa⟩
 case round=>
  obtain⟨k,z,hk,rfl,rfl,st⟩:=hrel;have nr:Nw w wr:=⟨st.chg⟩;have hrw:HR wr A (cellsOf P):=⟨HRR.out.later st.chg⟩;by_cases hlt:k<n
  ·have hltI:(k:Int)<n:=by omega
   have hkl:k<P.length:=by omega
   by_cases h24:k<24
   ·have h24I:(k:Int)<24:=by omega
    go_wp2_with fail;refine Ah (Ab) (by kernel_rfl) (fun wd _ _=> ?_);refine YS 0 ?_;refine YS 1 ?_;refine YS 2 ?_;refine YS 3 ?_;refine Gx 4 Ly 24 ?_;refine Jh 5 46 Tryz.underlying46 ?_;refine Jh 6 44 Tryz.underlying44 ?_;refine YLG 7 Ly k 1 40 hkl (Ai5 _) ?_;refine YS 8 ?_;refine YS 9 ?_;refine YS 10 ?_;refine YS 11 ?_;refine Gx 12 Ly 24 ?_;refine Jh 13 46 Tryz.underlying46 ?_;refine Jh 14 44 Tryz.underlying44 ?_;refine YLG 15 Ly k 35 40 hkl (Ai6 _) ?_;refine YS 16 ?_;refine YS 17 ?_;refine YS 18 ?_;refine YS 19 ?_;refine Gx 20 Ly 24 ?_;refine Jh 21 46 Tryz.underlying46 ?_;refine Jh 22 44 Tryz.underlying44 ?_;refine YLG 23 Ly k 37 40 hkl (Afc _) ?_;refine YS 24 ?_;refine YS 25 ?_;refine YS 26 ?_;refine Yd ?_;go_wp2_with fail
    all_goals first
     |exact⟨⟨k+1,_,by omega,by go_num,rfl,Aa⟩,by simp[intOf];omega⟩
     |(go_ret;exact⟨.inl rfl,Aa⟩)
   have h24I: ¬(k:Int)<24:=by omega
   go_wp2_with fail;go_ret;exact⟨.inr rfl,Aa⟩
  have hltI: ¬(k:Int)<n:=by omega
  go_wp2_with fail;go_ret;exact⟨.inr rfl,Aa⟩
end Go.Proofs.YtjjhceeookpieaaGreat
end
section
open Go Go.RowKit
namespace Go.Proofs.YtjjhceeookpieaaGreat
def hR3:Ak:=⟨3::List.replicate 31 0,by simp⟩
structure Mo (w wr:World) (zr:Nat) (j:Int) (W:Option Addr) (s:Il):Prop where
 R:FV wr zr s
 ok:TOk s.T
 lo: ∀x,KX zr s x∨s.O x→w.heap.size≤x
 dl:(s.D.length:Int)≤16*j
 xl:(s.xl.length:Int)≤j
 u0:0≤s.u0∧s.u0≤16
 g:s.g=1+s.u0
 u1:0≤s.u1
 v:0≤s.v∧s.v≤j
 off: ∀ad,W=some ad→w.heap.size≤ad.block∧¬(KX zr s ad.block∨s.O ad.block)
def Ao7 (w wr:World) (zr:Nat) (j:Int) (W:Option Addr) (D:List Ad):Prop:=∃s,Mo w wr zr j W s∧s.D=D
theorem Mo.next {w wr w':World} {zr:Nat} {j:Int} {W:Option Addr} {s s':Il} {n c:Nat} {D:List Ad} (L:Mo w wr zr j W s) (N:Hq wr w' zr s s') (hW:HO wr 44 37 W n c (cellsOf D)) (hw:Nw w wr) (ok:TOk s'.T) (dl:(s'.D.length:Int)≤16*(j+1)) (xl:(s'.xl.length:Int)≤j+1) (u0:0≤s'.u0∧s'.u0≤16) (g:s'.g=1+s'.u0) (u1:0≤s'.u1) (v:0≤s'.v∧s'.v≤j+1):
    Mo w w' zr (j+1) W s'∧HO w' 44 37 W n c (cellsOf D)∧Nw w w':=by
 refine⟨⟨N.at',ok,fun x h=> ?_,dl,xl,u0,g,u1,v,fun ad e=>⟨(L.off ad e).1,fun h=> ?_⟩⟩,⟨hW.out.chg N.st (fun ad e h=>(L.off ad e).2 (.inl h))⟩,⟨hw.out.trans N.st (fun x hx h=>by have:=L.lo x (.inl h);omega)⟩⟩
 ·rcases N.fr x h with h1|h1
  ·exact L.lo x h1
  exact Nat.le_trans hw.out.size h1
 rcases N.fr _ h with h1|h1
 ·exact(L.off ad e).2 h1
 have:=hW.out.lt e;omega
theorem Mo.same {w wr w':World} {zr:Nat} {j:Int} {W:Option Addr} {s:Il} {n c:Nat} {D:List Ad} (L:Mo w wr zr j W s) (st:Ag Ab wr w') (hW:HO wr 44 37 W n c (cellsOf D)) (hw:Nw w wr) (_:0≤j):
    Mo w w' zr (j+1) W s∧HO w' 44 37 W n c (cellsOf D)∧Nw w w':=
 ⟨⟨L.R.nw st.chg,L.ok,L.lo,by have:=L.dl;omega,by have:=L.xl;omega,L.u0,L.g,L.u1,⟨L.v.1,by have:=L.v.2;omega⟩,L.off⟩,⟨hW.out.chg st.chg (fun _ _ h=>h)⟩,⟨hw.out.trans st.chg (fun _ _ h=>h)⟩⟩
theorem Mo.nw {w wr w':World} {zr:Nat} {j:Int} {W:Option Addr} {s:Il} (L:Mo w wr zr j W s) (c:Au Ab wr w'):Mo w w' zr j W s:=⟨L.R.nw c,L.ok,L.lo,L.dl,L.xl,L.u0,L.g,L.u1,L.v,L.off⟩
theorem Mo.append {w wr w':World} {zr:Nat} {j:Int} {W W2:Option Addr} {s:Il} (L:Mo w wr zr j W s) (c:Au (An W) wr w') (hz:w.heap.size≤wr.heap.size) (hg: ∀ad,W2=some ad→W2=W∨wr.heap.size≤ad.block):Mo w w' zr j W2 s:=
 ⟨L.R.chg c (fun y ⟨ad,e,h⟩=>by
  have h1:=(L.off ad e).2;rw[h] at h1;exact⟨fun h2=>h1 (.inl h2),fun h2=>h1 (.inr h2)⟩),L.ok,L.lo,L.dl,L.xl,L.u0,L.g,L.u1,L.v,fun ad e=>by
  rcases hg ad e with h1|h1
  ·rw[h1] at e;exact L.off ad e
  refine⟨Nat.le_trans hz h1,fun h=> ?_⟩;rcases h with h|h
  ·have:=L.R.lts _ h;omega
  have:=L.R.oLt _ h;omega⟩
end Go.Proofs.YtjjhceeookpieaaGreat
end
