/- UhTy, UhOtW, UhOtE, UhOtS, UhTyW, UhWrA, UhWrB, UhWrC, UhWrD, UhWsA, UhWsB, UhWtA, UhWtB, UhWtC -/
import Derived.Test.YtjjhceeookpieaaGreatUhBase
import Derived.Test.YtjjhceeookpieaaGreatUhDig
import Derived.Test.YtjjhceeookpieaaGreatUhDgB
import Derived.Test.YtjjhceeookpieaaGreatUhZ
import Derived.StillTailTactics
import Derived.Test.YtjjhceeookpieaaGreatProg
import Derived.Test.YtjjhceeookpieaaGreatUhByte
import Derived.Test.YtjjhceeookpieaaGreatUhOcEl
section
open Go Go.RowKit
namespace Go.Proofs.YtjjhceeookpieaaGreat
instance Ani:Eb Tryz.prog 23 (Aw Aq.l):=⟨.agg (Aw Aq.l),fun _=>by kernel_rfl,rfl⟩
instance Anj:Eb Tryz.prog 278 (Aw (AP 35)):=⟨.agg (Aw (AP 35)),fun _=>by kernel_rfl,rfl⟩
instance Ank:Cl Tryz.prog 23 32:=⟨by kernel_rfl,_,Tryz.underlying23,rfl⟩
instance Anl:Cl Tryz.prog 278 35:=⟨by kernel_rfl,_,Tryz.underlying278,rfl⟩
instance Anm:AL Tryz.prog 5:=⟨fun _=>by kernel_rfl,fun _=>by kernel_rfl⟩
instance Ann:AL Tryz.prog 3:=⟨fun _=>by kernel_rfl,fun _=>by kernel_rfl⟩
instance Ano:Bm Tryz.prog 55 5 1 1 (.int .u8 0):=⟨Gk⟩
instance Anp:Bm Tryz.prog 28 23 32 32 (.agg (Aw Aq.l)):=⟨⟨Tryz.underlying28,by kernel_rfl,rfl,by decide⟩⟩
@[simp] theorem Aha (n:Nat):(AP n).length =n:=FO n
theorem LR (hh:Ak) (w:World):(Instr.buildSlice 28 1 #[(0, .agg (Aw hh.l))]).run Tryz.prog w= .ok (.slice (some ⟨w.heap.size,0,none⟩) 1 1) (w.alloc (.cells (Aw hh.l) 23)):=by
 have hs:=hh.size;have hz: ∀w,(zeroValue 23).run Tryz.prog w= .ok (.agg (Aw (AP 32))) w:=fun _=>by kernel_rfl
 have hi: ∀w,(sizeOf 23).run Tryz.prog w= .ok 32 w:=fun _=>by kernel_rfl
 unfold Instr.buildSlice;simp only[Sem.run_bind,run_underlying Tryz.underlying28,Result.andThen_ok,hi];have hf:Instr.fill (fun i=>some (i*32,32)) ((Array.range (1*32)).map ((Aw (AP 32))[·%(Aw (AP 32)).size]!)) [(0,Value.agg (Aw hh.l))]=some (Aw hh.l):=by
  rw[AZ _ _ 0 (.agg (Aw hh.l)) [] (off:=0) (size:=32) rfl hs (by simp),JN _ _ (by show(Aw hh.l).size =_;rw[hs];simp)];rfl
 simp[hz,Value.cells,hf,newRow]
def Gw (xs:List UInt8):Ak:=⟨MQ xs,JO xs⟩
theorem Io {A:Option Addr} {n c:Nat} {xs:List UInt8} {w:World} [h:HR w A (bs xs)] (hn:xs.length=n) (hc:n≤c) (hmax:n≤1000000000):
    Calls Tryz.prog 34 #[.slice A n c] w fun e w'=>e= .returned (.agg (Aw (Gw xs).l))∧Ag Ab w w':=
 (KG A n c xs w h.out hn hc hmax).mono fun _ _ ⟨he,hc⟩=>⟨he,⟨hc.out⟩⟩
theorem KU {A:Option Addr} {n c:Nat} {xs:List UInt8} {w:World} [h:HR w A (bs xs)] (hn:xs.length=n) (hmax:n≤1000000000):
    Calls Tryz.prog 79 #[.slice A n c] w fun e w'=>e= .returned (.agg (Aw (Gw xs).l))∧Ag Ab w w':=
 (Km A n c xs w h.out hn hmax).mono fun _ _ ⟨he,hc⟩=>⟨he,⟨hc.out⟩⟩
theorem WB {A:Option Addr} {n c:Nat} {xs:List UInt8} {w:World} [h:HR w A (bs xs)] (hn:xs.length=n) (hc:n≤c) (hmax:n≤140737488351232):
    Calls Tryz.prog 34 #[.slice A n c] w fun e w'=>e= .returned (.agg (Aw (Gw xs).l))∧Ag Ab w w':=
 (MY A n c xs w h.out hn hc hmax).mono fun _ _ ⟨he,hc⟩=>⟨he,⟨hc.out⟩⟩
theorem Nn {A:Option Addr} {n c:Nat} {xs:List UInt8} {w:World} [h:HR w A (bs xs)] (hn:xs.length=n) (hmax:n≤140737488351232):
    Calls Tryz.prog 79 #[.slice A n c] w fun e w'=>e= .returned (.agg (Aw (Gw xs).l))∧Ag Ab w w':=
 (Jm A n c xs w h.out hn hmax).mono fun _ _ ⟨he,hc⟩=>⟨he,⟨hc.out⟩⟩
end Go.Proofs.YtjjhceeookpieaaGreat
end
section
set_option maxRecDepth 100000
set_option maxHeartbeats 800000
open Go Go.RowKit
namespace Go.Proofs.YtjjhceeookpieaaGreat
def IG (chain:Int) (i:Nat) (h:Ak):List UInt8:=1::b8 chain::b8 i::h.l
theorem TS (chain:Int) (i:Nat) (h:Ak):(IG chain i h).length =35:=by simp[IG,h.len]
def Xb (chain:Int) (i:Nat) (h:Ak):Ak:=Gw (IG chain i h)
def Hg (chain:Int):Nat→Nat→Ak→Ak
 |_,0,h=>h
 |i,n+1,h=>Hg chain (i+1) n (Xb chain i h)
def Ev (chain f t:Int) (h:Ak):Ak:=Hg chain (max f 0).toNat (min t 3 -max f 0).toNat h
theorem KM (chain:Int): ∀(i n:Nat) (h:Ak),Hg chain i (n+1) h=Xb chain (i+n) (Hg chain i n h)
 |i,0,h=>rfl
 |i,n+1,h=>by
  have e:=KM chain (i+1) n (Xb chain i h);have e2:i+1+n=i+(n+1):=by omega
  rw[e2] at e;exact e
theorem Oy (h:Ak) (chain f t:Int) (w:World):
    Calls Tryz.prog 173 #[.agg (Aw h.l), .int .i64 chain, .int .i64 f, .int .i64 t] w fun e w'=>e= .returned (.agg (Aw (Ev chain f t h).l))∧Ag Ab w w':=by
 have kb: ∀w,(Instr.build 278 #[(0, .int .u8 1),(1, .int .u8 (chain%256))]).run Tryz.prog w= .ok (.agg (Aw (1::b8 chain::AP 33))) w:=fun _=>by rw[Rm];kernel_rfl
 obtain⟨s,hs⟩: ∃s:Nat,(s:Int)=max f 0:=⟨(max f 0).toNat,by omega⟩;have hs':max f 0=(s:Int):=hs.symm;obtain⟨n,hn⟩: ∃n:Nat,n=(min t 3 -max f 0).toNat :=⟨_,rfl⟩;have HN:=Lib.hid hn;have HS:Hid ((max f 0).toNat =s):=Lib.hid (by omega);have hn1:(s:Int)+n≤3∨n=0:=by omega
 have hn2: ∀k:Nat,k<n→(s:Int)+k<min t 3:=fun k hk=>by omega
 have HE:Hid (∀k:Nat,k≤n→¬k<n→¬(s:Int)+k<min t 3):=Lib.hid (fun k h1 h2=>by omega);have HL:=Lib.hid hn2;clear hn hs hn2;go_enter Tryz.func173,Tryz.ntmps173;go_wp2_with (first|(refine Ji (kb _) ?_)|(refine Bv 4 ?_;intro zh wzh _ _ _)|(refine BB 8 ?_;intro zo wzo _ _ _)|(refine BB 9 ?_;intro zr wzr _ _ _)|(refine Bt ?_;intro ws _ _)|((with_reducible apply Rn);exact rfl;exact rfl));go_loopw [10] (fun i wr=>∃k:Nat,k≤n∧i= .int .i64 ((s:Int)+k)∧Ag Ab w wr∧HB wr zo 23 (Aw Aq.l)∧HB wr zh 23 (Aw (Hg chain s k h).l)∧∃b ys,ys.length=32∧HB wr zr 278 (Aw (1::b8 chain::b::ys))) (fun i _=>(s+n) -(intOf i).toNat)
 case atStart=>exact⟨0,Nat.zero_le _,by rw[Int.natCast_zero,Int.add_zero],Aa,inferInstance,inferInstance,0,AP 32,rfl,inferInstance⟩
 case round=>
  obtain⟨k,hk,rfl,_,_,_,b,ys,hys,_⟩:=hrel;have hlen:(1::b8 chain::b::ys).length =35:=by simp[hys]
  by_cases hlt:k<n
  ·have hlt3:=HL.out k hlt;go_wp2_with (first|(refine WSX 5 ?_;intro ws _ _)|((with_reducible apply Lf);exact rfl;exact rfl))
   go_still_tail 2,(by kernel_rfl)
   change wpList _ _ _ _ _ (World.drew _);go_wp2_with (first|((with_reducible apply Ia);exact Tryz.underlying55;(kernel_rfl);exact rfl;exact rfl;infer_instance;infer_instance;(first|(with_reducible assumption)|(with_reducible exact Ak.len _)|(focus (simp;done)));(first|(with_reducible assumption)|omega);(first|(with_reducible assumption)|omega|(focus (simp;done))|(focus (simp;omega;done))|decide);intro wc _ _));have hB:=HB.eq (ys:=IG chain (s+k) (Hg chain s k h)) (inferInstance:HB wc zr 278 _) (by simp[IG,hys]);refine(Io (xs:=IG chain (s+k) (Hg chain s k h)) (TS _ _ _) (Nat.le_refl _) (by decide)).mono ?_;rintro e w5 ⟨rfl,_⟩;go_wp2_with (first|(refine Bt ?_;intro ws _ _));refine⟨⟨k+1,by omega, ?_,Aa,inferInstance, ?_,b8 (s+k),(Hg chain s k h).l,Ak.len _, ?_⟩, ?_⟩
   ·go_num
   ·rw[KM];exact inferInstance
   ·show HB _ zr _ (Aw (IG chain (s+k) (Hg chain s k h)));exact inferInstance
   simp[intOf];omega
  have hge:=HE.out k hk hlt;have hge': ¬(s:Int)+k<min t 3:=by omega
  obtain rfl:k=n:=by omega
  go_wp2_with (first|(refine Cp ?_)|(refine Bt ?_;intro ws _ _)|((with_reducible apply Lf);exact rfl;exact rfl));refine Bo rfl rfl (n:=32) (Ak.size _) rfl ⟨?_,Aa⟩;rw[Ev,HS.out,HN.out]
end Go.Proofs.YtjjhceeookpieaaGreat
end
section
set_option maxRecDepth 100000
set_option maxHeartbeats 800000
open Go Go.RowKit
namespace Go.Proofs.YtjjhceeookpieaaGreat
def Hf (l:List Ak):List UInt8:=l.flatMap (·.l)
theorem QG (l:List Ak):(Hf l).length =l.length*32:=by
 induction l with
 |nil=>rfl
 |cons a l ih=>simp only[Hf,List.flatMap_cons,List.length_append,a.len] at*;rw[ih,List.length_cons];omega
theorem Ow (l:List Ak) (x:Ak):Hf (l++[x])=Hf l++x.l:=by simp[Hf]
theorem QH (l:List Ak) (k:Nat) (h:k<l.length):l.take (k+1)=l.take k++[AG l k]:=by
 rw[List.take_add_one,AG,List.getD_eq_getElem?_getD,List.getElem?_eq_getElem h];rfl
def JT (l:List Ak):Ak:=Gw (2::Hf l)
theorem RO {A:Option Addr} {n c:Nat} {l:List Ak} {w:World} [HR w A (cellsOf l)] (hl:l.length=n) (hn:n≤1000000):
    Calls Tryz.prog 167 #[.slice A n c] w fun e w'=>e= .returned (.agg (Aw (JT l).l))∧Ag Ab w w':=by
 have kb: ∀w,(Instr.buildSlice 55 1 #[(0, .int .u8 2)]).run Tryz.prog w= .ok (.slice (some ⟨w.heap.size,0,none⟩) 1 1) (w.alloc (.cells (Aw [2]) 5)):=fun _=>by kernel_rfl
 have hm1:MG ([(2:UInt8)].length ≤maxLen):=⟨by decide⟩;have HL:=Lib.hid hl;clear hl;go_enter Tryz.func167,Tryz.ntmps167;go_wp2_with (first|(refine WBs (kb _) ?_;intro zb wb _ _ _)|(refine BB 2 ?_;intro zo wzo _ _ _));go_loopw [3,9] (fun v i wr=>∃(k:Nat) (A':Option Addr) (c':Nat),k≤n∧i= .int .i64 (k:Int)∧v= .slice A' (1+32*k) c'∧1+32*k≤c'∧Ag Ab w wr∧HB wr zo 23 (Aw Aq.l)∧Aj w A'∧As (An A') zo∧HO wr 5 1 A' (1+32*k) c' (bs (2::Hf (l.take k)))) (fun _ i _=>n -(intOf i).toNat)
 case atStart=>
  refine⟨0,some ⟨zb,0,none⟩,1,Nat.zero_le _,rfl,rfl,Nat.le_refl _,Aa,inferInstance,Aj.mono (w:=_) (Aj.of_born 0),inferInstance, ?_⟩;show HO _ _ 1 _ [(2:UInt8)].length [(2:UInt8)].length (bs [2]);exact inferInstance
 case round=>
  obtain⟨k,A',c',hk,rfl,rfl,hcap0,_,_,_,_,_⟩:=hrel;by_cases hlt:k<n
  ·have hkl:k<l.length:=by have:=HL.out;omega
   have hln:=HL.out;have hsn:Hid (2::Hf (l.take (k+1))=2::Hf (l.take k)++(AG l k).l):=Lib.hid (by rw[QH l k hkl,Ow];rfl);go_wp2_with (first|(refine BB 5 ?_;intro zh wzh _ _ _)|(refine Bt ?_;intro ws _ _)|(refine WIH ?_)|(refine WLH 23 ?_)|(refine NO ?_;intro A' c' wa _ _ _ hcap));refine⟨⟨k+1,_,_,by omega, ?_,rfl,hcap,Aa,inferInstance,inferInstance,inferInstance, ?_⟩, ?_⟩
   ·go_num
   ·rw[hsn.out];exact inferInstance
   simp[intOf];omega
  obtain rfl:k=n:=by omega
  have hll:=HL.out;have hLT:Hid (l.take l.length=l):=Lib.hid (List.take_length);go_wp2_with fail;refine(Io (xs:=2::Hf (l.take k)) (by rw[List.length_cons,QG,List.length_take];omega) (by omega) (by omega)).mono ?_;rintro e w5 ⟨rfl,_⟩;go_wp2_with (first|(refine Bt ?_;intro ws _ _));refine Bo rfl rfl (n:=32) (Ak.size _) rfl ⟨?_,Aa⟩;rw[JT,←hll,hLT.out]
theorem VR {A:Option Addr} {n c:Nat} {l:List Ak} {w:World} [HR w A (cellsOf l)] (hl:l.length=n) (hn:n≤1000000):
    Calls Tryz.prog 156 #[.slice A n c] w fun e w'=>e= .returned (.agg (Aw (JT l).l))∧Ag Ab w w':=by
 have kb: ∀w,(Instr.buildSlice 55 1 #[(0, .int .u8 2)]).run Tryz.prog w= .ok (.slice (some ⟨w.heap.size,0,none⟩) 1 1) (w.alloc (.cells (Aw [2]) 5)):=fun _=>by kernel_rfl
 have hm1:MG ([(2:UInt8)].length ≤maxLen):=⟨by decide⟩;have HL:=Lib.hid hl;clear hl;go_enter Tryz.func156,Tryz.ntmps156;go_wp2_with (first|(refine WBs (kb _) ?_;intro zb wb _ _ _)|(refine BB 2 ?_;intro zo wzo _ _ _));go_loopw [3,4] (fun v i wr=>∃(k:Nat) (A':Option Addr) (c':Nat),k≤n∧i= .int .i64 (k:Int)∧v= .slice A' (1+32*k) c'∧1+32*k≤c'∧Ag Ab w wr∧HB wr zo 23 (Aw Aq.l)∧Aj w A'∧As (An A') zo∧HO wr 5 1 A' (1+32*k) c' (bs (2::Hf (l.take k)))) (fun _ i _=>n -(intOf i).toNat)
 case atStart=>
  refine⟨0,some ⟨zb,0,none⟩,1,Nat.zero_le _,rfl,rfl,Nat.le_refl _,Aa,inferInstance,Aj.mono (w:=_) (Aj.of_born 0),inferInstance, ?_⟩;show HO _ _ 1 _ [(2:UInt8)].length [(2:UInt8)].length (bs [2]);exact inferInstance
 case round=>
  obtain⟨k,A',c',hk,rfl,rfl,hcap0,_,_,_,_,_⟩:=hrel;by_cases hlt:k<n
  ·have hkl:k<l.length:=by have:=HL.out;omega
   have hln:=HL.out;have hki:MG (k<l.length):=⟨hkl⟩;have hsn:Hid (2::Hf (l.take (k+1))=2::Hf (l.take k)++(AG l k).l):=Lib.hid (by rw[QH l k hkl,Ow];rfl);go_wp2_with (first|(refine WIH ?_)|((with_reducible apply NR);exact rfl;exact Tryz.underlying23;(kernel_rfl);infer_instance;(first|(with_reducible assumption)|omega))|(refine NO ?_;intro A' c' wa _ _ _ hcap));refine⟨⟨k+1,_,_,by omega, ?_,rfl,hcap,Aa,inferInstance,inferInstance,inferInstance, ?_⟩, ?_⟩
   ·go_num
   ·rw[hsn.out];exact inferInstance
   simp[intOf];omega
  obtain rfl:k=n:=by omega
  have hll:=HL.out;have hLT:Hid (l.take l.length=l):=Lib.hid (List.take_length);go_wp2_with fail;refine(KU (xs:=2::Hf (l.take k)) (by rw[List.length_cons,QG,List.length_take];omega) (by omega)).mono ?_;rintro e w5 ⟨rfl,_⟩;go_wp2_with (first|(refine Bt ?_;intro ws _ _));refine Bo rfl rfl (n:=32) (Ak.size _) rfl ⟨?_,Aa⟩;rw[JT,←hll,hLT.out]
end Go.Proofs.YtjjhceeookpieaaGreat
end
section
set_option maxRecDepth 100000
set_option maxHeartbeats 800000
open Go Go.RowKit
namespace Go.Proofs.YtjjhceeookpieaaGreat
def Ij (seed:Ak) (leaf chain:Int):List UInt8:=0::(seed.l++[b8 leaf,b8 chain])
theorem PL (seed:Ak) (leaf chain:Int):(Ij seed leaf chain).length =35:=by simp[Ij,seed.len]
def NE (seed:Ak) (leaf chain:Int):Ak:=Gw (Ij seed leaf chain)
theorem RR (seed:Ak) (leaf chain:Int) (w:World):
    Calls Tryz.prog 172 #[.agg (Aw seed.l), .int .i64 leaf, .int .i64 chain] w fun e w'=>e= .returned (.agg (Aw (NE seed leaf chain).l))∧Ag Ab w w':=by
 have kb: ∀w,(Instr.build 278 #[(0, .int .u8 0)]).run Tryz.prog w= .ok (.agg (Aw (AP 35))) w:=fun _=>by kernel_rfl
 have e1:Hid (((List.take 1 (AP 35)++seed.l++List.drop (1+32) (AP 35)).set 33 (b8 (leaf%256))).set 34 (b8 (chain%256))=Ij seed leaf chain):=Lib.hid (by
  have e0:List.take 1 (AP 35)++seed.l++List.drop (1+32) (AP 35)=0::(seed.l++[0,0]):=rfl;rw[e0,ZL,ZL,sB,sB,List.set_append_right _ _ (by simp[seed.len]),List.set_append_right _ _ (by simp[seed.len]),seed.len];rfl)
 go_enter Tryz.func172,Tryz.ntmps172;go_wp2_with (first|(refine Ji (kb _) ?_)|(refine Bv 3 ?_;intro zs wzs _ _ _)|(refine BB 6 ?_;intro zo wzo _ _ _)|(refine BB 7 ?_;intro zr wzr _ _ _)|(refine Bt ?_;intro ws _ _))
 go_still_tail 2,(by kernel_rfl)
 change wpList _ _ _ _ _ (World.drew _);go_wp2_with (first|(refine WSX 5 ?_;intro ws _ _)|((with_reducible apply Ia);exact Tryz.underlying55;(kernel_rfl);exact rfl;exact rfl;infer_instance;infer_instance;(first|(with_reducible assumption)|(with_reducible exact Ak.len _)|(focus (simp;done)));(first|(with_reducible assumption)|omega);(first|(with_reducible assumption)|omega|(focus (simp;done))|(focus (simp;omega;done))|decide);intro wc _ _));have hB:=HB.eq (inferInstance:HB ws zr 278 _) e1.out;refine(Io (xs:=Ij seed leaf chain) (PL _ _ _) (Nat.le_refl _) (by decide)).mono ?_;rintro e w5 ⟨rfl,_⟩;go_wp2_with (first|(refine Bt ?_;intro ws _ _));exact Bo rfl rfl (n:=32) (Ak.size _) rfl ⟨rfl,Aa⟩
def Hp (g:Ak→Nat→Ak) (l:List Ak) (k:Nat):List Ak:=(List.range k).map fun i=>g (AG l i) i
theorem FS (g:Ak→Nat→Ak) (l:List Ak) (k:Nat):(Hp g l k).length =k:=by simp[Hp]
theorem QK (g:Ak→Nat→Ak) (l:List Ak) (k:Nat):Hp g l (k+1)=Hp g l k++[g (AG l k) k]:=by simp[Hp,List.range_succ]
def Jt (g:Ak→Nat→Ak) (l:List Ak) (n k:Nat):List Ak:=Hp g l k++List.replicate (n -k) Aq
theorem YH (g:Ak→Nat→Ak) (l:List Ak) (n k:Nat) (h:k≤n):(Jt g l n k).length =n:=by simp[Jt,FS];omega
theorem YI (g:Ak→Nat→Ak) (l:List Ak) (n k:Nat) (h:k<n):(Jt g l n k).set k (g (AG l k) k)=Jt g l n (k+1):=by
 unfold Jt;rw[List.set_append_right _ _ (by rw[FS];exact Nat.le_refl _),FS,Nat.sub_self,QK,List.append_assoc]
 congr 1
 have e:n -k=(n -(k+1))+1:=by omega
 rw[e,List.replicate_succ];rfl
theorem YJ (g:Ak→Nat→Ak) (l:List Ak) (n:Nat):Jt g l n n=Hp g l n:=by simp[Jt]
theorem KL {A:Option Addr} {n c:Nat} {l:List Ak} {w:World} [HR w A (cellsOf l)] (hl:l.length=n) (hn:36≤n) (f:FuncId) (hf: ∀args w,(callFunc f args).run Tryz.prog w= .ok (.enter f args) w) (first captured:Array Value) (g:Ak→Nat→Ak)
    (hcall: ∀w',Nw w w'→∀(h:Ak) (i:Nat),i<36→Calls Tryz.prog f (first++#[.agg (Aw h.l), .int .i64 (i:Int)]++captured) w' fun e w''=>e= .returned (.agg (Aw (g h i).l))∧Ag Ab w' w''):
    Calls Tryz.prog 103 #[.slice A n c, .func (.func f) first captured] w fun e w'=>∃z,e= .returned (.slice (some ⟨z,0,none⟩) 36 36)∧Ag Ab w w'∧Aj w (some ⟨z,0,none⟩)∧HO w' 23 32 (some ⟨z,0,none⟩) 36 36 (cellsOf (Hp g l 36)):=by
 have HC:=Lib.hid hcall;have HL:=Lib.hid hl;clear hcall hl;go_enter Tryz.func103,Tryz.ntmps103;go_wp2_with (first|((with_reducible apply(Lh (n:=36)));exact rfl;exact rfl;infer_instance;(decide);intro zm wm _ _ _));go_loopw [6,10] (fun v i wr=>∃k:Nat,k≤36∧i= .int .i64 (k:Int)∧Ag Ab w wr∧HO wr 23 32 (some ⟨zm,0,none⟩) 36 36 (cellsOf (Jt g l 36 k))) (fun _ i _=>36 -(intOf i).toNat)
 case atStart=>exact⟨0,Nat.zero_le _,rfl,Aa,inferInstance⟩
 case round=>
  obtain⟨k,hk,rfl,_,_⟩:=hrel;by_cases hlt:k<36
  ·have hkl:k<l.length:=by have:=HL.out;omega
   have hkn:k<n:=by omega
   have hln:=HL.out;have hd:=YH g l 36 k hk;have hdk:k<(Jt g l 36 k).length :=by omega
   have hD:Hid ((Jt g l 36 k).set k (g (AG l k) k)=Jt g l 36 (k+1)):=Lib.hid (YI g l 36 k hlt);go_wp2_with (first|(refine WIH ?_)|(refine WLH 23 ?_));rw[←Array.append_assoc];refine(HC.out _ inferInstance (AG l k) k hlt).mono ?_;rintro e w5 ⟨rfl,_⟩;go_wp2_with (first|(refine WIH ?_)|(refine WSH 23 ?_;intro ws _ _));rw[hD.out] at*;refine⟨⟨k+1,by omega,by go_num,Aa,inferInstance⟩, ?_⟩;simp[intOf];omega
  obtain rfl:k=36:=by omega
  go_wp2_with fail;go_ret;refine⟨zm,rfl,Aa,Aj.mono (w:=_) (Aj.of_born 0), ?_⟩;rw[←YJ];exact inferInstance
end Go.Proofs.YtjjhceeookpieaaGreat
end
section
open Go Go.RowKit
namespace Go.Proofs.YtjjhceeookpieaaGreat
instance Amd:AL Tryz.prog 260:=⟨fun _=>by kernel_rfl,fun _=>by kernel_rfl⟩
instance Ame:AL Tryz.prog 253:=⟨fun _=>by kernel_rfl,fun _=>by kernel_rfl⟩
instance Amf:AL Tryz.prog 197:=⟨fun _=>by kernel_rfl,fun _=>by kernel_rfl⟩
instance Amg:AL Tryz.prog 258:=⟨fun _=>by kernel_rfl,fun _=>by kernel_rfl⟩
instance Amh:Bm Tryz.prog 258 197 1 8 .nilFunc :=⟨⟨Tryz.underlying258,by kernel_rfl,rfl,by decide⟩⟩
instance Ami:AL Tryz.prog 268:=⟨fun _=>by kernel_rfl,fun _=>by kernel_rfl⟩
instance Amj:AL Tryz.prog 55:=⟨fun _=>by kernel_rfl,fun _=>by kernel_rfl⟩
instance Amk:AL Tryz.prog 3:=⟨fun _=>by kernel_rfl,fun _=>by kernel_rfl⟩
instance Aml:Cl Tryz.prog 23 32:=⟨by kernel_rfl,_,Tryz.underlying23,rfl⟩
instance Aki:Cl Tryz.prog 36 35:=⟨by kernel_rfl,_,Tryz.underlying36,rfl⟩
instance Akj:Eb Tryz.prog 195 #[.slice none 0 0]:=⟨.agg #[.slice none 0 0],fun _=>by kernel_rfl,rfl⟩
instance Akk:AL Tryz.prog 5:=⟨fun _=>by kernel_rfl,fun _=>by kernel_rfl⟩
instance Akl:AL Tryz.prog 4:=⟨fun _=>by kernel_rfl,fun _=>by kernel_rfl⟩
instance Akm:AL Tryz.prog 9:=⟨fun _=>by kernel_rfl,fun _=>by kernel_rfl⟩
instance Akn:Bm Tryz.prog 55 5 1 1 (.int .u8 0):=⟨⟨Tryz.underlying55,by kernel_rfl,rfl,by decide⟩⟩
end Go.Proofs.YtjjhceeookpieaaGreat
end
section
set_option maxRecDepth 100000
open Go Go.RowKit
namespace Go.Proofs.YtjjhceeookpieaaGreat
structure EV (w:World) (T:Nat→Prop) (fv:Value) (ys:List UInt8):Prop where
 low: ∀x,T x→x<w.heap.size
 run: ∃f caps,fv= .func (.func f) #[] caps∧(∀args w2,(callFunc f args).run Tryz.prog w2= .ok (.enter f args) w2)∧∀w1 g A xs,Au (fun x=>¬T x) w w1→Cz w1 g A xs→(∀x,Wf g A x→¬T x)→xs.length+ys.length≤1000000000→
  Calls Tryz.prog f (#[.pointer (some ⟨g,0,none⟩)]++caps) w1 fun e w'=>e= .returned (.tuple #[])∧∃A',Cz w' g A' (xs++ys)∧Au (Wf g A) w1 w'∧Cb w1 A A'
theorem EI {P:Program} {f:FuncId} {fn:Func} {c:Code} (hf:P.funcs[f]? =some fn) (hname:(fn.name== "runtime.NumGoroutine")=false) (hb:fn.body=some c) (args:Array Value) (w:World):
    (callFunc f args).run P w= .ok (.enter f args) w:=by
 have h1:fn.name≠ "runtime.NumGoroutine" :=by simpa using hname
 simp[callFunc,hf,h1,hb]
theorem EV.later {w w':World} {T S:Nat→Prop} {fv:Value} {ys:List UInt8} (h:EV w T fv ys) (hc:Au S w w') (hS: ∀x,T x→¬S x):EV w' T fv ys:=by
 obtain⟨f,caps,e,hent,hrun⟩:=h.run;refine⟨fun x hx=>Nat.lt_of_lt_of_le (h.low x hx) hc.size,f,caps,e,hent,fun w1 g A xs h1 h2 h3 h4=>hrun w1 g A xs ?_ h2 h3 h4⟩;exact(hc.mono (fun x _ hk hT=>hS x hT hk)).trans h1 (fun _ _ hk=>hk)
theorem SL {w:World} {g bl bv n c:Nat} {A A2:Option Addr} {xs:List UInt8} {vs:List Int} {fx:FuncId} {t1 t2:TypeId} (hf:fx= 176) (hw:Cz w g A xs) [hbl:HB w bl t1 #[.func (.func fx) #[] #[]]] [hbv:HB w bv t2 #[.slice A2 n c]] (hr:Rd w A2 (Oo vs)) (hn:vs.length=n) (hA2:Dx (Wf g A) A2 (Oo vs)) (hx:xs.length+9*vs.length≤1000000000000):
    Calls Tryz.prog 213 #[.pointer (some ⟨g,0,none⟩), .pointer (some ⟨bl,0,none⟩), .pointer (some ⟨bv,0,none⟩)] w fun e w'=>e= .returned (.tuple #[])∧∃A',Cz w' g A' (xs++Ae vs)∧Au (Wf g A) w w'∧Cb w A A':=by
 subst hf;go_enter Tryz.func213,Tryz.ntmps213;go_wp2_with (first|(refine GU ?_));refine(Oq g A xs A2 n c vs w hw hr hn hA2 hx).mono ?_;rintro e w5 ⟨rfl,h5⟩;go_wp2_with fail
 go_end0
 exact⟨rfl,h5⟩
theorem UU {A2:Option Addr} {n c:Nat} {vs:List Int} {w:World} (hr:Rd w A2 (Oo vs)) (hn:vs.length=n) (hlim:9*vs.length≤1000000000):
    Calls Tryz.prog 175 #[.func (.func 176) #[] #[], .slice A2 n c] w fun e w'=>∃fv T,e= .returned fv∧Ag Ab w w'∧EV w' T fv (Ae vs)∧∀x,T x→w.heap.size≤x∨An A2 x:=by
 go_enter Tryz.func175,Tryz.ntmps175;go_wp2_with (first|((with_reducible apply(Dd (dst:=some 2) (cs:=#[.func (.func 176) #[] #[]])));exact rfl;exact rfl;intro bl wbl _ _ _)|(refine WBL 3 ?_;intro bv wbv _ _ _));go_ret;have h1:HB wbv bl 260 #[.func (.func 176) #[] #[]]:=inferInstance;have h2:HB wbv bv 253 #[.slice A2 n c]:=inferInstance;have hst:Ag Ab w wbv:=Aa;have hbl:w.heap.size≤bl:=Nat.le_of_eq (inferInstance:AW w bl).eq.symm;have hbv:w.heap.size≤bv:=by
  have e1:=(inferInstance:AW wbl bv).eq;have e2:=(inferInstance:Ay w wbl).out;omega
 have hr2:=hr.later hst.chg;refine⟨_,fun x=>x=bl∨x=bv∨(Oo vs≠[]∧An A2 x),rfl,hst,⟨fun x hx=> ?_,_,_,rfl,EI Tryz.func213 (by kernel_rfl) rfl,fun w1 g A xs hc hw hT hlen=> ?_⟩,fun x hx=> ?_⟩
 ·rcases hx with rfl|rfl|⟨hne,ad,e,hk⟩
  ·exact h1.out.lt
  ·exact h2.out.lt
  rw[←hk];exact DC hr2 hne e
 ·have k1:HB w1 bl 260 #[.func (.func 176) #[] #[]]:=⟨h1.out.chg hc (fun hk=>hk (.inl rfl))⟩;have k2:HB w1 bv 253 #[.slice A2 n c]:=⟨h2.out.chg hc (fun hk=>hk (.inr (.inl rfl)))⟩;have hl:=Az vs;exact SL rfl hw (hr2.chg hc (fun hne ad e hk=>hk (.inr (.inr ⟨hne,ad,e,rfl⟩)))) hn (fun hne ad e hk=>hT _ hk (.inr (.inr ⟨hne,ad,e,rfl⟩))) (by omega)
 rcases hx with rfl|rfl|⟨hne,hk⟩
 ·exact .inl hbl
 ·exact .inl hbv
 exact .inr hk
theorem WK {A2:Option Addr} {n c:Nat} {vs:List Int} {w:World} (hr:Rd w A2 (Oo vs)) (hn:vs.length=n) (hlim:9*vs.length≤1000000000):
    Calls Tryz.prog 108 #[.slice A2 n c] w fun e w'=>∃fv T,e= .returned fv∧Ag Ab w w'∧EV w' T fv (Ae vs)∧∀x,T x→w.heap.size≤x∨An A2 x:=by
 go_enter Tryz.func108,Tryz.ntmps108;go_wp2_with fail;refine(UU (A2:=A2) (c:=c) hr hn hlim).mono ?_;rintro e w5 ⟨fv,T,rfl,hs,hL,hT⟩;go_wp2_with fail;go_ret;exact⟨fv,T,rfl,hs,hL,hT⟩
end Go.Proofs.YtjjhceeookpieaaGreat
end
section
set_option maxRecDepth 100000
open Go Go.RowKit
namespace Go.Proofs.YtjjhceeookpieaaGreat
structure Fld where
 fv:Value
 T:Nat→Prop
 ys:List UInt8
def fvs (l:List Fld):List Value:=l.map (·.fv)
def ER (l:List Fld):List UInt8:=l.flatMap (·.ys)
def gf (l:List Fld) (k:Nat):Fld:=l.getD k ⟨.nilFunc,Ab,[]⟩
theorem Acq (l:List Fld) (k:Nat) (h:k<l.length):gf l k∈l:=by
 simp[gf,List.getD_eq_getElem?_getD,h]
theorem Ah1 {l:List Fld} {k:Nat} (h:k<l.length):(fvs l)[k]? =some (gf l k).fv :=by
 simp[fvs,gf,List.getD_eq_getElem?_getD,h]
theorem Pl (l:List Fld) (k:Nat) (h:k<l.length):ER (l.take (k+1))=ER (l.take k)++(gf l k).ys :=by
 rw[List.take_add_one,List.getElem?_eq_getElem h];unfold ER;rw[List.flatMap_append];simp[gf,List.getD_eq_getElem?_getD,h]
theorem Acr (l:List Fld) (k:Nat) (h:k<l.length):(ER (l.take k)).length +(gf l k).ys.length ≤(ER l).length :=by
 rw[←List.length_append,←Pl l k h];have e:ER l=ER (l.take (k+1))++ER (l.drop (k+1)):=by
  unfold ER;rw[←List.flatMap_append,List.take_append_drop]
 rw[e,List.length_append];exact Nat.le_add_right _ _
theorem Qj {w:World} {g bl n c:Nat} {A A2:Option Addr} {xs:List UInt8} {l:List Fld} {t1:TypeId} (hw:Cz w g A xs) [hbl:HB w bl t1 #[.slice A2 n c]] (hr:Rd w A2 (fvs l)) (hn:l.length=n) (hA2:Dx (Wf g A) A2 (fvs l))
    (hL: ∀f∈l,EV w f.T f.fv f.ys) (hT: ∀f∈l,∀x,Wf g A x→¬f.T x) (hx:xs.length+(ER l).length ≤1000000000) (hm:n≤1000000000):
    Calls Tryz.prog 174 #[.pointer (some ⟨g,0,none⟩), .pointer (some ⟨bl,0,none⟩)] w fun e w'=>e= .returned (.tuple #[])∧∃A',Cz w' g A' (xs++ER l)∧Au (Wf g A) w w'∧Cb w A A':=by
 have HN:=Lib.hid hn;clear hn;go_enter Tryz.func174,Tryz.ntmps174;go_wp2_with (first|(refine GU ?_));go_loopw [7] (fun iv wr=>∃(k:Nat) (A1:Option Addr),k≤n∧iv= .int .i64 (k:Int)∧Cz wr g A1 (xs++ER (l.take k))∧Au (Wf g A) w wr∧Cb w A A1) (fun iv _=>n -(intOf iv).toNat)
 case atStart=>exact⟨0,A,Nat.zero_le _,rfl,by simpa[ER] using hw,Au.refl _ _,Cb.refl _ _⟩
 case round=>
  obtain⟨k,A1,hk,rfl,hW,hC,hM⟩:=hrel;by_cases hlt:k<n
  ·have hltI:(k:Int)<n:=by omega
   have hkl:k<l.length:=by have:=HN.out;omega
   have hv:=Ah1 hkl;have hvl:0<(fvs l).length :=by simp[fvs];omega
   have hLk:=hL _ (Acq l k hkl);have hTk:=hT _ (Acq l k hkl);have hle:=Acr l k hkl;have htk:=Pl l k hkl;obtain⟨⟨fv,T,ys⟩,hfl⟩: ∃x,gf l k=x:=⟨_,rfl⟩;rw[hfl] at hv hLk hTk hle htk;simp only at hv hLk hTk hle htk;obtain⟨f,caps,rfl,hent,hrun⟩:=hLk.run;have hlow:=hLk.low;have hr1:HR wr A2 (fvs l):=⟨hr.chg hC hA2⟩;have HV:=Lib.hid hv;have hcall:=hrun wr g A1 (xs++ER (l.take k)) (hC.mono (fun x _ hS hTx=>hTk x hS hTx)) hW (fun x hx hTx=>by
    rcases hM with rfl|⟨ad,rfl,had⟩
    ·exact hTk x hx hTx
    rcases hx with rfl|⟨ad',e,rfl⟩
    ·exact hTk _ (.inl rfl) hTx
    injection e with e
    subst e;have:=hlow _ hTx;omega) (by rw[List.length_append];omega)
   clear hle hv hfl hLk hlow;go_wp2_with (first|((with_reducible apply Vq);exact rfl;exact rfl;infer_instance;exact hr1;exact hvl;exact hlt)|((with_reducible apply XO);exact rfl;exact hr1;infer_instance;exact HV.out));refine hcall.mono ?_;rintro e w5 ⟨rfl,A5,h5,hc5,hm5⟩;have h6:=En hC hM hc5 hm5;go_wp2_with fail;refine⟨⟨k+1,A5,by omega,by simp,by rw[htk,←List.append_assoc];exact h5,h6.1,h6.2⟩,by simp[intOf];omega⟩
  obtain rfl:k=n:=by omega
  have hltI: ¬(k:Int)<k:=by omega
  have hfin:l.take k=l:=List.take_of_length_le (by have:=HN.out;omega);rw[hfin] at hW;go_wp2_with fail
  go_end0
  exact⟨rfl,A1,hW,hC,hM⟩
end Go.Proofs.YtjjhceeookpieaaGreat
end
section
set_option maxRecDepth 100000
open Go Go.RowKit
namespace Go.Proofs.YtjjhceeookpieaaGreat
theorem HB.rdL {w:World} {z:Nat} {t:TypeId} {cs:Array Value} (h:HB w z t cs):Rd w (some ⟨z,0,none⟩) cs.toList:=fun k u hk=>by
 refine⟨_,rfl, ?_⟩;rw[DQ,h.out.cell k];simpa using hk
def fnV (f:FuncId) (caps:Array Value):Value:= .func (.func f) #[] caps
theorem IN {A2:Option Addr} {n c:Nat} {l:List Fld} {w:World} (hr:Rd w A2 (fvs l)) (hn:l.length=n) (hm:n≤1000000000) (hL: ∀f∈l,EV w f.T f.fv f.ys):
    Calls Tryz.prog 107 #[.slice A2 n c] w fun e w'=>∃f caps T,e= .returned (.func (.func f) #[] caps)∧Ag Ab w w'∧EV w' T (.func (.func f) #[] caps) (ER l)∧∀x,T x→w.heap.size≤x∨(fvs l≠[]∧An A2 x)∨∃f∈l,f.T x:=by
 go_enter Tryz.func107,Tryz.ntmps107;go_wp2_with (first|(refine WBL 1 ?_;intro bl wbl _ _ _));go_ret;have h1:HB wbl bl 258 #[.slice A2 n c]:=inferInstance;have hst:Ag Ab w wbl:=Aa;have hbl:w.heap.size≤bl:=Nat.le_of_eq (inferInstance:AW w bl).eq.symm;have hr2:=hr.later hst.chg;refine⟨_,_,fun x=>x=bl∨(fvs l≠[]∧An A2 x)∨∃f∈l,f.T x,rfl,hst,⟨fun x hx=> ?_,_,_,rfl,EI Tryz.func174 (by kernel_rfl) rfl,fun w1 g A xs hc hw hT hlen=> ?_⟩,fun x hx=> ?_⟩
 ·rcases hx with rfl|⟨hne,ad,e,hk⟩|⟨f,hf,hx⟩
  ·exact h1.out.lt
  ·rw[←hk];exact DC hr2 hne e
  exact Nat.lt_of_lt_of_le ((hL f hf).low x hx) hst.chg.size
 ·have k1:HB w1 bl 258 #[.slice A2 n c]:=⟨h1.out.chg hc (fun hk=>hk (.inl rfl))⟩;exact Qj hw (hr2.chg hc (fun hne ad e hk=>hk (.inr (.inl ⟨hne,ad,e,rfl⟩)))) hn (fun hne ad e hk=>hT _ hk (.inr (.inl ⟨hne,ad,e,rfl⟩)))
   (fun f hf=>(((hL f hf).later hst.chg (fun _ _ h=>h)).later hc (fun x hx hk=>hk (.inr (.inr ⟨f,hf,hx⟩))))) (fun f hf x hx hk=>hT x hx (.inr (.inr ⟨f,hf,hk⟩))) (by omega) hm
 rcases hx with rfl|h|h
 ·exact .inl hbl
 ·exact .inr (.inl h)
 exact .inr (.inr h)
theorem SM {w:World} {g bl bv n c:Nat} {A A2:Option Addr} {xs ys:List UInt8} {fx:FuncId} {t1 t2:TypeId} (hf:fx= 197) (hw:Cz w g A xs) [hbl:HB w bl t1 #[.func (.func fx) #[] #[]]] [hbv:HB w bv t2 #[.slice A2 n c]] (hr:Rd w A2 (bs ys)) (hn:ys.length=n) (hx:xs.length+ys.length≤10000000000000):
    Calls Tryz.prog 227 #[.pointer (some ⟨g,0,none⟩), .pointer (some ⟨bl,0,none⟩), .pointer (some ⟨bv,0,none⟩)] w fun e w'=>e= .returned (.tuple #[])∧∃A',Cz w' g A' (xs++ys)∧Au (Wf g A) w w'∧Cb w A A':=by
 subst hf;go_enter Tryz.func227,Tryz.ntmps227;go_wp2_with (first|(refine GU ?_));refine(Ot g A xs A2 n c ys w hw hr hn hx).mono ?_;rintro e w5 ⟨rfl,A5,h5,h6,h7⟩;go_wp2_with fail
 go_end0
 exact⟨rfl,A5,h5.out,h6.out,h7.out⟩
theorem UV {A2:Option Addr} {n c:Nat} {ys:List UInt8} {w:World} (hr:Rd w A2 (bs ys)) (hn:ys.length=n):
    Calls Tryz.prog 196 #[.func (.func 197) #[] #[], .slice A2 n c] w fun e w'=>∃f caps T,e= .returned (.func (.func f) #[] caps)∧Ag Ab w w'∧EV w' T (.func (.func f) #[] caps) ys∧∀x,T x→w.heap.size≤x∨An A2 x:=by
 go_enter Tryz.func196,Tryz.ntmps196;go_wp2_with (first|((with_reducible apply(Dd (dst:=some 2) (cs:=#[.func (.func 197) #[] #[]])));exact rfl;exact rfl;intro bl wbl _ _ _)|(refine WBL 3 ?_;intro bv wbv _ _ _));go_ret;have h1:HB wbv bl 268 #[.func (.func 197) #[] #[]]:=inferInstance;have h2:HB wbv bv 55 #[.slice A2 n c]:=inferInstance;have hst:Ag Ab w wbv:=Aa;have hbl:w.heap.size≤bl:=Nat.le_of_eq (inferInstance:AW w bl).eq.symm;have hbv:w.heap.size≤bv:=by
  have e1:=(inferInstance:AW wbl bv).eq;have e2:=(inferInstance:Ay w wbl).out;omega
 have hr2:=hr.later hst.chg;refine⟨_,_,fun x=>x=bl∨x=bv∨(bs ys≠[]∧An A2 x),rfl,hst,⟨fun x hx=> ?_,_,_,rfl,EI Tryz.func227 (by kernel_rfl) rfl,fun w1 g A xs hc hw hT hlen=> ?_⟩,fun x hx=> ?_⟩
 ·rcases hx with rfl|rfl|⟨hne,ad,e,hk⟩
  ·exact h1.out.lt
  ·exact h2.out.lt
  rw[←hk];exact DC hr2 hne e
 ·have k1:HB w1 bl 268 #[.func (.func 197) #[] #[]]:=⟨h1.out.chg hc (fun hk=>hk (.inl rfl))⟩;have k2:HB w1 bv 55 #[.slice A2 n c]:=⟨h2.out.chg hc (fun hk=>hk (.inr (.inl rfl)))⟩;exact SM rfl hw (hr2.chg hc (fun hne ad e hk=>hk (.inr (.inr ⟨hne,ad,e,rfl⟩)))) hn (by omega)
 rcases hx with rfl|rfl|⟨hne,hk⟩
 ·exact .inl hbl
 ·exact .inl hbv
 exact .inr hk
theorem BV (h:Ak) (w:World):
    Calls Tryz.prog 136 #[.agg (Aw h.l)] w fun e w'=>∃f caps T,e= .returned (.func (.func f) #[] caps)∧Ag Ab w w'∧EV w' T (.func (.func f) #[] caps) h.l∧∀x,T x→w.heap.size≤x:=by
 go_enter Tryz.func136,Tryz.ntmps136;go_wp2_with (first|(refine Bv 1 ?_;intro zb wzb _ _ _));have hbz:HB wzb zb 23 (Aw h.l):=inferInstance;have hz:zb=w.heap.size:=(inferInstance:AW w zb).eq;have hst:Ag Ab w wzb:=Aa;refine(UV (A2:=some ⟨zb,0,none⟩) (n:=32) (c:=32) (ys:=h.l) hbz.rdL h.len).mono ?_;rintro e w5 ⟨f,caps,T,rfl,hs,hL,hT⟩;go_wp2_with fail;go_ret;refine⟨f,caps,T,rfl,⟨hst.chg.trans hs.chg (fun _ _ h=>h)⟩,hL,fun x hx=> ?_⟩;rcases hT x hx with h|⟨ad,e,hk⟩
 ·exact Nat.le_trans hst.chg.size h
 injection e with e
 subst e;have hk':zb=x:=hk;omega
end Go.Proofs.YtjjhceeookpieaaGreat
end
section
set_option maxRecDepth 100000
set_option maxHeartbeats 800000
open Go Go.RowKit
namespace Go.Proofs.YtjjhceeookpieaaGreat
theorem SN (h:Ak):(bs h.l).length =32:=by rw[Am,Ak.len]
section
variable {P:Program} {ops:Array Oper} {a:Act} {w:World} {dst:Option Tmp} {ty:TypeId} {pos:String} {after:Array Edge} {gd:Option (Nat×Bool)}
theorem Ab6 {t:TypeId} {x:Operand} {g k n:Nat} (hx:a.eval x= .pointer (some ⟨g,k,none⟩)) {tb:TypeId} {cs:Array Value} (hb:HB w g tb cs) (ht:Cl P t n) {part:List Value} (hc:(cs.toList.drop k).take n=part) (hn:part.length=n) (hp:0<n):
    (execOp a.eval ⟨dst, .load t x,ty,pos,after,gd⟩).run P w= .ok (.value (.agg part.toArray)) w:=by
 have hr:=hb.rdL;have e:(Value.pointer (some (⟨g,k,none⟩:Addr)))=AN (some ⟨g,0,none⟩) k:=by rw[AN,Dp,DQ]
 show((Instr.loadAt t (a.eval x))>>=fun v=>pure (Next.value v)).run P w=_;rw[hx,e,Sem.run_bind,CU (k:=k) (cs:=part) hr ht hn hc hp];rfl
end
def BI (v e s:Int) (h:Ak):List Value:= .int .i64 v:: .int .i64 e:: .int .i64 s::bs h.l
theorem Cr (v e s:Int) (h:Ak):(BI v e s h).toArray.size =35:=by
 show(BI v e s h).length =35;simp[BI,Am]
theorem Af6 (v e s:Int) (h:Ak):((BI v e s h).toArray.toList.drop 3).take 32=bs h.l:=by
 show(bs h.l).take 32=bs h.l;exact List.take_of_length_le (by rw[SN];exact Nat.le_refl _)
theorem AM (a:Int) (w:World):(Instr.buildSlice 253 1 #[(0, .int .i64 a)]).run Tryz.prog w= .ok (.slice (some ⟨w.heap.size,0,none⟩) 1 1) (w.alloc (.cells #[.int .i64 a] 3)):=by kernel_rfl
theorem Pm (a b c:Int) (w:World):(Instr.buildSlice 253 3 #[(0, .int .i64 a),(1, .int .i64 b),(2, .int .i64 c)]).run Tryz.prog w= .ok (.slice (some ⟨w.heap.size,0,none⟩) 3 3) (w.alloc (.cells #[.int .i64 a, .int .i64 b, .int .i64 c] 3)):=by kernel_rfl
theorem BL (f1 f2:FuncId) (c1 c2:Array Value) (w:World):(Instr.buildSlice 258 2 #[(0, .func (.func f1) #[] c1),(1, .func (.func f2) #[] c2)]).run Tryz.prog w= .ok (.slice (some ⟨w.heap.size,0,none⟩) 2 2) (w.alloc (.cells #[.func (.func f1) #[] c1, .func (.func f2) #[] c2] 197)):=by kernel_rfl
theorem Ci {z n c:Nat} {vs:List Int} {w:World} {t:TypeId} {cs:Array Value} [h:HB w z t cs] (hcs:cs=(Oo vs).toArray) (hn:vs.length=n) (hlim:9*vs.length≤1000000000):
    Calls Tryz.prog 108 #[.slice (some ⟨z,0,none⟩) n c] w fun e w'=>∃f caps T,e= .returned (.func (.func f) #[] caps)∧Ag Ab w w'∧EV w' T (.func (.func f) #[] caps) (Ae vs)∧∀x,T x→w.heap.size≤x∨x=z:=by
 have hr:=h.rdL;rw[hcs] at hr;refine(WK (A2:=some ⟨z,0,none⟩) (c:=c) (by simpa using hr) hn hlim).mono ?_;rintro e w' ⟨fv,T,rfl,hs,hL,hT⟩;obtain⟨f,caps,rfl,_,_⟩:=hL.run;refine⟨f,caps,T,rfl,hs,hL,fun x hx=> ?_⟩;rcases hT x hx with h|⟨ad,e,hk⟩
 ·exact .inl h
 injection e with e
 subst e;exact .inr hk.symm
theorem DY {z c:Nat} {f1 f2:FuncId} {c1 c2:Array Value} {T1 T2:Nat→Prop} {y1 y2:List UInt8} {w:World} {t:TypeId} [h:HB w z t #[.func (.func f1) #[] c1, .func (.func f2) #[] c2]] (h1:EV w T1 (.func (.func f1) #[] c1) y1) (h2:EV w T2 (.func (.func f2) #[] c2) y2):
    Calls Tryz.prog 107 #[.slice (some ⟨z,0,none⟩) 2 c] w fun e w'=>∃f caps T,e= .returned (.func (.func f) #[] caps)∧Ag Ab w w'∧EV w' T (.func (.func f) #[] caps) (y1++y2)∧∀x,T x→w.heap.size≤x∨x=z∨T1 x∨T2 x:=by
 have hr:=h.rdL;refine(IN (A2:=some ⟨z,0,none⟩) (c:=c) (l:=[⟨_,T1,y1⟩,⟨_,T2,y2⟩]) hr rfl (show 2≤1000000000 by decide) ?_).mono ?_
 ·intro f hf;simp only[List.mem_cons,List.not_mem_nil,or_false] at hf;rcases hf with rfl|rfl
  ·exact h1
  exact h2
 rintro e w' ⟨f,caps,T,rfl,hs,hL,hT⟩;refine⟨f,caps,T,rfl,hs, ?_,fun x hx=> ?_⟩
 ·have e2:ER [⟨Value.func (.func f1) #[] c1,T1,y1⟩,⟨Value.func (.func f2) #[] c2,T2,y2⟩]=y1++y2:=by simp[ER]
  rwa[e2] at hL
 rcases hT x hx with h|⟨_,ad,e,hk⟩|⟨f,hf,hk⟩
 ·exact .inl h
 ·injection e with e
  subst e;exact .inr (.inl hk.symm)
 simp only[List.mem_cons,List.not_mem_nil,or_false] at hf;rcases hf with rfl|rfl
 ·exact .inr (.inr (.inl hk))
 exact .inr (.inr (.inr hk))
theorem Qk (v e0 s:Int) (h:Ak) (w:World):
    Calls Tryz.prog 70 #[.agg (BI v e0 s h).toArray] w fun e w'=>∃f caps T,e= .returned (.func (.func f) #[] caps)∧Ag Ab w w'∧EV w' T (.func (.func f) #[] caps) (Ae [v,e0,s]++h.l)∧∀x,T x→w.heap.size≤x:=by
 go_enter Tryz.func70,Tryz.ntmps70;go_wp2_with (first|(refine Bv 1 ?_;intro zt wzt _ _ _));have hwz:=(Aa (w0:=w) (w:=wzt)).chg.size;refine Ah (Ab) (by kernel_rfl) (fun wd _ _=> ?_);refine YS 0 ?_;refine WN 1 ?_;refine YS 2 ?_;refine WN 3 ?_;refine YS 4 ?_;refine WN 5 ?_;refine YS 8 ?_;refine' tk 9 _ rfl (by kernel_rfl) (by kernel_rfl) (by kernel_rfl) (fun _ _ _ h=>h) (yo (by rfl) fun w' _=> ?_) inferInstance ?_;rotate_left
 ·((apply Ab6);exact rfl;infer_instance;infer_instance;exact Af6 _ _ _ _;exact SN _;(decide))
 try simp only[Act.put,sA,sB,sC]
 refine Yh 6 fun K_ hK_=> ?_
 (first|(refine BM 9 (Pm _ _ _ _) ?_;intro zb wb _ _ _)|(refine BM 14 (BL _ _ _ _ _) ?_;intro zc wb _ _ _))
 refine Yn hK_ ?_;clear hK_ K_;refine Yg 7 fun K_ hK_=> ?_
 go_simp;refine(Ci (z:=zb) (vs:=[v,e0,s]) rfl rfl (show 9*3≤1000000000 by decide)).mono ?_;rintro e w5 ⟨f5,caps5,T5,rfl,_,hL5,hT5⟩;have hzb:w.heap.size≤zb:=(Aj.monoS (w0:=w) (Aj.of_born (z:=zb) 0)).out ⟨zb,0,none⟩ rfl;refine Yz hK_ ?_;clear hK_ K_;refine Yg 10 fun K_ hK_=> ?_
 go_simp;refine(BV h _).mono ?_;rintro e w6 ⟨f6,caps6,T6,rfl,_,hL6,hT6⟩;refine Yz hK_ ?_;clear hK_ K_;refine Yh 11 fun K_ hK_=> ?_
 (first|(refine BM 9 (Pm _ _ _ _) ?_;intro zb wb _ _ _)|(refine BM 14 (BL _ _ _ _ _) ?_;intro zc wb _ _ _))
 refine Yn hK_ ?_;clear hK_ K_;refine Yg 12 fun K_ hK_=> ?_
 go_simp;refine(DY (z:=zc) (hL5.later (Aa (w0:=w5)).chg (fun _ _ h=>h)) (hL6.later (Aa (w0:=w6)).chg (fun _ _ h=>h))).mono ?_;rintro e w7 ⟨f7,caps7,T7,rfl,_,hL7,hT7⟩;have hzc:w.heap.size≤zc:=(Aj.monoS (w0:=w) (Aj.of_born (z:=zc) 0)).out ⟨zc,0,none⟩ rfl;refine Yz hK_ ?_;clear hK_ K_;refine YS 13 ?_;refine Yd ?_;go_wp2_with fail;go_ret;refine⟨f7,caps7,T7,rfl,Aa,hL7,fun x hx=> ?_⟩;rcases hT7 x hx with h|rfl|h|h
 ·exact Nat.le_trans (Aa (w0:=w)).chg.size h
 ·exact hzc
 ·rcases hT5 x h with h|rfl
  ·exact Nat.le_trans (Aa (w0:=w)).chg.size h
  exact hzb
 exact Nat.le_trans (Aa (w0:=w)).chg.size (hT6 x h)
def Ca (n:Int):Bool:=decide (0≤n)&&decide (n≤1073741824)
def BE (n:Int):Bool:=decide (1≤n)&&decide (n≤1073741824)
theorem Cj (n:Int) (w:World):Calls Tryz.prog 111 #[.int .i64 n] w fun e w'=>e= .returned (.bool (Ca n))∧Ag Ab w w':=by
 by_cases h1:0≤n
 ·by_cases h2:n≤1073741824
  ·have e:Ca n=true:=by simp[Ca,h1,h2]
   rw[e];clear e;go_enter Tryz.func111,Tryz.ntmps111;go_wp2_with fail;go_ret;exact⟨rfl,Aa⟩
  have e:Ca n=false:=by simp[Ca,h2]
  rw[e];clear e;go_enter Tryz.func111,Tryz.ntmps111;go_wp2_with fail;go_ret;exact⟨rfl,Aa⟩
 have e:Ca n=false:=by simp[Ca,h1]
 rw[e];clear e;go_enter Tryz.func111,Tryz.ntmps111;go_wp2_with fail;go_ret;exact⟨rfl,Aa⟩
theorem Bh (n:Int) (w:World):Calls Tryz.prog 110 #[.int .i64 n] w fun e w'=>e= .returned (.bool (BE n))∧Ag Ab w w':=by
 by_cases h1:1≤n
 ·by_cases h2:n≤1073741824
  ·have e:BE n=true:=by simp[BE,h1,h2]
   rw[e];clear e;go_enter Tryz.func110,Tryz.ntmps110;go_wp2_with fail;go_ret;exact⟨rfl,Aa⟩
  have e:BE n=false:=by simp[BE,h2]
  rw[e];clear e;go_enter Tryz.func110,Tryz.ntmps110;go_wp2_with fail;go_ret;exact⟨rfl,Aa⟩
 have e:BE n=false:=by simp[BE,h1]
 rw[e];clear e;go_enter Tryz.func110,Tryz.ntmps110;go_wp2_with fail;go_ret;exact⟨rfl,Aa⟩
def IP (v e s:Int):Bool:=BE v&&Ca e&&BE s
theorem LY (v e0 s:Int) (h:Ak) (w:World):
    Calls Tryz.prog 69 #[.agg (BI v e0 s h).toArray] w fun e w'=>e= .returned (.bool (IP v e0 s))∧Ag Ab w w':=by
 unfold IP;rcases h1:BE v with _|_
 ·have e1:(false&&Ca e0&&BE s)=false:=by simp
  rw[e1];go_enter Tryz.func69,Tryz.ntmps69;go_wp2_with (first|(refine Bv 1 ?_;intro zt wzt _ _ _)|(refine GU ?_));refine(Bh v _).mono ?_;rw[h1];rintro e w5 ⟨rfl,_⟩;go_wp2_with (first|go_skip);go_ret;exact⟨rfl,Aa⟩
 rcases h2:Ca e0 with _|_
 ·have e1:(true&&false&&BE s)=false:=by simp
  rw[e1];go_enter Tryz.func69,Tryz.ntmps69;go_wp2_with (first|(refine Bv 1 ?_;intro zt wzt _ _ _)|(refine GU ?_));refine(Bh v _).mono ?_;rw[h1];rintro e w5 ⟨rfl,_⟩;go_wp2_with (first|(refine Ct ?_)|(refine CG ?_)|(refine GU ?_));refine(Cj e0 _).mono ?_;rw[h2];rintro e w6 ⟨rfl,_⟩;go_wp2_with (first|go_skip);go_ret;exact⟨rfl,Aa⟩
 have e1:(true&&true&&BE s)=BE s:=by simp
 rw[e1];go_enter Tryz.func69,Tryz.ntmps69;go_wp2_with (first|(refine Bv 1 ?_;intro zt wzt _ _ _)|(refine GU ?_));refine(Bh v _).mono ?_;rw[h1];rintro e w5 ⟨rfl,_⟩;go_wp2_with (first|(refine Ct ?_)|(refine CG ?_)|(refine GU ?_));refine(Cj e0 _).mono ?_;rw[h2];rintro e w6 ⟨rfl,_⟩;go_wp2_with (first|(refine Ct ?_)|(refine CG ?_)|(refine GU ?_));refine(Bh s _).mono ?_;rintro e w7 ⟨rfl,_⟩;go_wp2_with fail;go_ret;exact⟨rfl,Aa⟩
def AR (ok:Bool) (bytes:List UInt8) (w:World):Ending→World→Prop:=fun e w'=>Ag Ab w w'∧
 if ok then∃A n c,e= .returned (.tuple #[.slice A n c, .int .i64 0])∧n=bytes.length∧HO w' 5 1 A n c (bs bytes)∧Aj w A
 else e= .returned (.tuple #[.slice none 0 0, .int .i64 1])
theorem Ql (v e0 s:Int) (h:Ak) (w:World):
    Calls Tryz.prog 68 #[.int .i64 2, .agg (BI v e0 s h).toArray, .func (.func 69) #[] #[], .func (.func 70) #[] #[]] w (AR (IP v e0 s) (Ae [2]++(Ae [v,e0,s]++h.l)) w):=by
 have hlen:=Cr v e0 s h;unfold AR;rcases hb:IP v e0 s with _|_
 ·go_enter Tryz.func68,Tryz.ntmps68;go_wp2_with (first|(refine Bv 5 ?_;intro zt wzt _ _ _)|(refine Cp ?_));refine(LY v e0 s h _).mono ?_;rw[hb];rintro e w5 ⟨rfl,_⟩;go_wp2_with fail
  go_ret2
  exact⟨Aa,rfl⟩
 go_enter Tryz.func68,Tryz.ntmps68;go_wp2_with (first|(refine Bv 5 ?_;intro zt wzt _ _ _)|(refine Cp ?_));refine(LY v e0 s h _).mono ?_;rw[hb];rintro e w5 ⟨rfl,_⟩;go_wp2_with (first|(refine BB 10 ?_;intro zw wzw _ _ _));have hzw:=(inferInstance:HB wzw zw 195 #[.slice none 0 0]).out.lt;have n9:Nw w wzw:=inferInstance;refine Ah ((only zw)) (by kernel_rfl) (fun wd _ _=> ?_);refine YS 0 ?_;refine YS 3 ?_;refine KW 4 ?_;refine Yh 1 fun K_ hK_=> ?_
 (first|(refine BM 16 (AM _ _) ?_;intro zb wb _ _ _)|(refine BM 21 (BL _ _ _ _ _) ?_;intro zc wb _ _ _))
 refine Yn hK_ ?_;clear hK_ K_;refine Yg 2 fun K_ hK_=> ?_
 go_simp;refine(Ci (z:=zb) (vs:=[2]) rfl rfl (show 9*1≤1000000000 by decide)).mono ?_;rintro e w6 ⟨f6,caps6,T6,rfl,_,hL6,hT6⟩;have hzb:wzw.heap.size≤zb:=(Aj.monoS (w0:=wzw) (Aj.of_born (z:=zb) 0)).out ⟨zb,0,none⟩ rfl;refine Yz hK_ ?_;clear hK_ K_;refine Yg 5 fun K_ hK_=> ?_
 go_simp;refine(Qk v e0 s h _).mono ?_;rintro e w7 ⟨f7,caps7,T7,rfl,_,hL7,hT7⟩;refine Yz hK_ ?_;clear hK_ K_;refine Yh 6 fun K_ hK_=> ?_
 (first|(refine BM 16 (AM _ _) ?_;intro zb wb _ _ _)|(refine BM 21 (BL _ _ _ _ _) ?_;intro zc wb _ _ _))
 refine Yn hK_ ?_;clear hK_ K_;refine Yg 7 fun K_ hK_=> ?_
 go_simp;refine(DY (z:=zc) (hL6.later (Aa (w0:=w6)).chg (fun _ _ h=>h)) (hL7.later (Aa (w0:=w7)).chg (fun _ _ h=>h))).mono ?_;rintro e w8 ⟨f8,caps8,T8,rfl,_,hL8,hT8⟩;have hzc:wzw.heap.size≤zc:=(Aj.monoS (w0:=wzw) (Aj.of_born (z:=zc) 0)).out ⟨zc,0,none⟩ rfl;obtain⟨f9,caps9,he9,hent,hrun⟩:=hL8.run;injection he9 with e1 _ e2
 injection e1 with e1
 subst e1 e2;have hw8:Cz w8 zw none []:=⟨⟨0,0,rfl,(inferInstance:HB w8 zw 195 #[.slice none 0 0]).out,Cm.nil _ _ _⟩,fun ad h=>by cases h⟩;have hT: ∀x,Wf zw none x→¬T8 x:=by
  rintro x (rfl|⟨ad,e,_⟩) hx
  ·rcases hT8 _ hx with h|h|h|h
   ·have:=Nat.le_trans (Aa (w0:=wzw)).chg.size h;omega
   ·omega
   ·rcases hT6 _ h with h|h
    ·have:=Nat.le_trans (Aa (w0:=wzw)).chg.size h;omega
    omega
   have:=Nat.le_trans (Aa (w0:=wzw)).chg.size (hT7 _ h);omega
  cases e
 have hlen2:([]:List UInt8).length +(Ae [2]++(Ae [v,e0,s]++h.l)).length ≤1000000000:=by
  have a1:=Az [2];have a2:=Az [v,e0,s];simp only[List.length_append,List.length_cons,List.length_nil,Ak.len_] at*;omega
 have HRUN:=Lib.hid (hrun w8 zw none [] (Au.refl _ _) hw8 hT hlen2);clear hrun;refine Yz hK_ ?_;clear hK_ K_;refine Yg 8 fun K_ hK_=> ?_
 go_simp;refine HRUN.out.mono ?_;rintro e w9 ⟨rfl,A9,hW9,hC9,hM9⟩;have st9:Ag (only zw) w8 w9:=⟨hC9.mono (fun x _ hx=>by
  rcases hx with h|⟨ad,e,_⟩
  ·exact h
  cases e)⟩
 refine Yz hK_ ?_;clear hK_ K_;refine Yd ?_;have n99:Nw w w9:=inferInstance;go_wp2_with fail;refine(JS zw A9 _ w9 hW9 (by rw[List.length_append];omega)).mono ?_;rintro e w10 ⟨A10,n10,c10,rfl,hn,ho,hc,hnew⟩;have st10:Ag Ab w9 w10:=⟨hc.out⟩;go_wp2_with fail
 go_ret2
 exact⟨Aa,A10,n10,c10,rfl,by have h9:=hn.out;simpa using h9,⟨ho.out⟩,⟨fun ad e=>Nat.le_trans n99.out.size (hnew.out ad e)⟩⟩
theorem ME (v e0 s:Int) (h:Ak) (w:World):
    Calls Tryz.prog 33 #[.agg (BI v e0 s h).toArray] w (AR (IP v e0 s) (Ae [2]++(Ae [v,e0,s]++h.l)) w):=by
 have hlen:=Cr v e0 s h;unfold AR;rcases hb:IP v e0 s with _|_
 all_goals
  go_enter Tryz.func33,Tryz.ntmps33;go_wp2_with (first|(refine Bv 1 ?_;intro zt wzt _ _ _)|(refine Cp ?_));refine(Ql v e0 s h _).mono ?_;rintro e w5 ⟨_,h5⟩;rw[hb] at h5
 ·obtain rfl:e=_:=h5;go_wp2_with fail
  go_ret2
  exact⟨Aa,rfl⟩
 obtain⟨A,n,c,rfl,hn,hO,hA⟩:=h5;have HN:=Lib.hid hn;clear hn;go_wp2_with fail
 go_ret2
 exact⟨Aa,A,n,c,rfl,by have h9:=HN.out;simpa using h9,hO,Aj.monoS hA⟩
end Go.Proofs.YtjjhceeookpieaaGreat
end
section
open Go Go.RowKit
namespace Go.Proofs.YtjjhceeookpieaaGreat
instance Amt:AL Tryz.prog 37:=⟨fun _=>by kernel_rfl,fun _=>by kernel_rfl⟩
instance Amu:Cl Tryz.prog 39 3:=⟨by kernel_rfl,_,Tryz.underlying39,rfl⟩
def Anr (v e:Int):Array Value:=#[.int .i64 v, .int .i64 e, .slice none 0 0]
def Ans (v e:Int):Bool:=BE v&&Ca e
end Go.Proofs.YtjjhceeookpieaaGreat
end
section
open Go Go.RowKit
namespace Go.Proofs.YtjjhceeookpieaaGreat
theorem GR (a b:Int) (w:World):(Instr.buildSlice 253 2 #[(0, .int .i64 a),(1, .int .i64 b)]).run Tryz.prog w= .ok (.slice (some ⟨w.heap.size,0,none⟩) 2 2) (w.alloc (.cells #[.int .i64 a, .int .i64 b] 3)):=by kernel_rfl
end Go.Proofs.YtjjhceeookpieaaGreat
end
section
open Go Go.RowKit
namespace Go.Proofs.YtjjhceeookpieaaGreat
instance Amv:Eb Tryz.prog 23 (Aw Aq.l):=⟨.agg (Aw Aq.l),fun _=>by kernel_rfl,rfl⟩
def RS.hsh (s:RS):Ak:=if h:(s.raw 32).1.length =32 then⟨(s.raw 32).1,h⟩ else Aq
theorem RS.raw_c (s:RS):(s.raw 32).1.length =32∨(s.raw 32).1=[]:=by
 unfold RS.raw;split
 ·exact .inr rfl
 rename_i h
 refine .inl ?_;show(s.b.take (32:Int).toNat).length =32;rw[List.length_take];have: ¬(s.b.length:Int)<32:=fun h2=>h (.inr (.inr h2))
 omega
theorem RS.raw_l (s:RS) (i:Int):(s.raw i).2.b.length ≤s.b.length:=by
 unfold RS.raw;split
 ·exact Nat.zero_le _
 show(s.b.drop i.toNat).length ≤_;rw[List.length_drop];omega
theorem RS.hsh_copy (s:RS) (m:Nat) (hm:m=(s.raw 32).1.length):Aq.l.take 0++(s.raw 32).1++Aq.l.drop (0+m)=s.hsh.l:=by
 subst hm;rcases s.raw_c with h|h
 ·rw[RS.hsh,dif_pos h,h];show[]++(s.raw 32).1++Aq.l.drop 32=_;rw[show Aq.l.drop 32=[] from rfl,List.append_nil];rfl
 rw[RS.hsh,dif_neg (by rw[h];decide),h];rfl
section
variable {P:Program} {ops:Array Oper} {a:Act} {w:World} {dst:Option Tmp} {ty:TypeId} {pos:String} {after:Array Edge} {gd:Option (Nat×Bool)}
end
def GE (g z:Nat):Nat→Prop:=fun x=>x=g∨x=z
instance (w:World) (g z:Nat):KE w (only g) (GE g z):=⟨fun _ _ h=> .inl h⟩
instance (w:World) (g z:Nat):KE w (only z) (GE g z):=⟨fun _ _ h=> .inr h⟩
instance (w:World) (g z:Nat):PB w (only g) (GE g z):=⟨fun _ _ h=> .inl h⟩
instance (w:World) (g z:Nat):PB w (only z) (GE g z):=⟨fun _ _ h=> .inr h⟩
end Go.Proofs.YtjjhceeookpieaaGreat
end
section
open Go Go.RowKit
namespace Go.Proofs.YtjjhceeookpieaaGreat
instance Amw:Eb Tryz.prog 36 (BI 0 0 0 Aq).toArray :=⟨.agg (BI 0 0 0 Aq).toArray,fun _=>by kernel_rfl,rfl⟩
section
variable {P:Program} {ops:Array Oper} {rest:List Oper} {a:Act} {w:World} {Q:Exit→Act→World→Prop} {dst:Option Tmp} {ty:TypeId} {pos:String} {after:Array Edge}
theorem Ce {t:TypeId} {x y:Operand} {g k n:Nat} {vs:Array Value} (hx:a.eval x= .pointer (some ⟨g,k,none⟩)) (hy:a.eval y= .agg vs) {tb:TypeId} {cs:Array Value} (hb:HB w g tb cs) (ht:Cl P t n) (hn:vs.size=n) (hn0:0<n) (hk:k+n≤cs.size) (hone:vs.all (·.oneCell')=true) {cs':Array Value} (hcs:cs.toList.take k++vs.toList++cs.toList.drop (k+n)=cs'.toList)
    (h: ∀w',Ag (only g) w w'→HB w' g tb cs'→wpList P ops Q rest (a.put dst undef) w'):wpList P ops Q (⟨dst, .store t x y,ty,pos,after,none⟩::rest) a w:=by
 have ho:Cm w tb cs.size (some ⟨g,0,none⟩) 1 1 cs.toList:=
  Cm.of_blk hb.out (Nat.le_refl _) (by decide) (by simp) (by rw[Nat.one_mul,List.take_of_length_le (by simp)])
 obtain⟨g',hA,h1,h2,h3⟩:=CP ho (k:=k) (cs:=vs.toList) (m:=n) (by simpa using hn) (by simpa using hk) hn0;obtain rfl:g'=g:=by injection hA with hA;injection hA with hA;exact hA.symm
 rw[hcs] at h2;refine Ep rfl (w':=w.setCells g' k vs.toList) ?_ (h _ ⟨⟨h3.os,h3.tape,h3.output,h3.size,fun x hx hn=>h3.block x hx (fun⟨ad,e,e2⟩=>hn (by injection e with e;subst e;exact e2.symm))⟩⟩ ⟨?_⟩)
 ·show((Instr.storeAt t (a.eval x) (a.eval y))>>=fun _=>pure Next.skip).run P w=_;rw[hx,hy,Sem.run_bind,run_storeAt_mid (P:=P) w g' k t vs (by rw[hn];exact h1) (by rw[hn];exact ht.size) hone];rfl
 have hl2:cs'.size=cs.size:=by
   have:=congrArg List.length hcs;simp at this;omega
 rcases h2.form with⟨hn,_⟩|⟨g3,cur,e,hb2,_,_,hsz,htk⟩
 ·cases hn
 injection e with e
 injection e with e
 subst e;have:cur=cs':=by
  apply Array.ext';rw[List.take_of_length_le (by rw[Array.length_toList,hsz];exact Nat.le_refl _)] at htk;exact htk
 rw[←this];exact hb2
end
theorem JK (v e s:Int) (h:Ak):(BI v e s h).toArray.all (·.oneCell')=true:=by
 rw[Array.all_eq_true_iff_forall_mem];intro u hu;have hu':u∈BI v e s h:=by simpa using hu
 rcases List.mem_cons.1 hu' with rfl|hu'
 ·rfl
 rcases List.mem_cons.1 hu' with rfl|hu'
 ·rfl
 rcases List.mem_cons.1 hu' with rfl|hu'
 ·rfl
 exact Ei h.l u hu'
def tV (s:RS):Nat:=s.num.1
def tE (s:RS):Nat:=(s.at 1).num.1
def tS (s:RS):Nat:=(s.at 2).num.1
def tH (s:RS):Ak:=(s.at 3).hsh
def tR (s:RS):RS:=((s.at 3).raw 32).2
end Go.Proofs.YtjjhceeookpieaaGreat
end
section
open Go Go.RowKit
namespace Go.Proofs.YtjjhceeookpieaaGreat
def AO (kind:Nat) (b:List UInt8):RS:=if(⟨b,false⟩:RS).num.1 =kind then(⟨b,false⟩:RS).num.2 else RS.bad
theorem Ir (kind:Nat) (b:List UInt8):(AO kind b).b.length ≤b.length:=by
 unfold AO;split
 ·exact RS.num_le ⟨b,false⟩
 exact Nat.zero_le _
def Cv (s:RS):Bool:=!s.e&&decide (s.b=[])
theorem Ajg (s:RS):(tR s).b.length ≤s.b.length:=Nat.le_trans ((s.at 3).raw_l 32) (s.at_le 3)
def UW (b:List UInt8):Bool:=Cv (tR (AO 2 b))&&IP (tV (AO 2 b)) (tE (AO 2 b)) (tS (AO 2 b))
def ZA (b:List UInt8):Array Value:=(BI (tV (AO 2 b)) (tE (AO 2 b)) (tS (AO 2 b)) (tH (AO 2 b))).toArray
def Acs (b:List UInt8) (w:World):Ending→World→Prop:=fun e w'=>Ag Ab w w'∧e= .returned (if UW b then .tuple #[.agg (ZA b), .int .i64 0] else .tuple #[.agg (BI 0 0 0 Aq).toArray, .int .i64 2])
end Go.Proofs.YtjjhceeookpieaaGreat
end
