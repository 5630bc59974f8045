/- UhDgX, UhDgL, UhRpK, UhRpN -/
import Derived.Test.YtjjhceeookpieaaGreatUhDig
import Derived.Test.YtjjhceeookpieaaGreatUhJoin
import Derived.Stop.BytesEq
import Derived.Deep.RegionWith
import Derived.Test.YtjjhceeookpieaaGreatUhDgB
import Derived.Test.YtjjhceeookpieaaGreatUhZ
import Derived.Test.YtjjhceeookpieaaGreatUhKyA
import Derived.Test.YtjjhceeookpieaaGreatUhTy
section
open Go Go.RowKit
namespace Go.Proofs.YtjjhceeookpieaaGreat
def An5 (xs:List UInt8) (b:UInt8) (k:Nat):List UInt8:=(xs.take k).map (·^^^b)++xs.drop k
def keyOf (key:List UInt8):List UInt8:=if key.length≤64 then key++AP (64 -key.length) else MQ key++AP 32
def An6 (key p:List UInt8):List UInt8:=MQ ((keyOf key).map (·^^^0x5c)++MQ ((keyOf key).map (·^^^0x36)++p))
end Go.Proofs.YtjjhceeookpieaaGreat
end
section
set_option maxRecDepth 100000
set_option maxHeartbeats 800000
open Go Go.RowKit
namespace Go.Proofs.YtjjhceeookpieaaGreat
theorem Vt (hs:List UInt8) (B:Option Addr) (m d:Nat) (p:List UInt8) (w:World) (hh:hs.length=32) (hr2:Rd w B (bs p)) (hm:p.length=m) (hm9:m≤10000000):
    Calls Tryz.prog 48 #[.agg (Aw hs), .slice B m d] w fun e w'=>e= .returned (.agg (Aw (MQ (hs++p))))∧Hid (Au Ab w w'):=by
 have HH:=Lib.hid hh;have HR2:=Lib.hid hr2;have HM:=Lib.hid hm;have HI25:=Lib.hid (show(Tryz.prog.info? 23).map (·.size)=some 32 by kernel_rfl);have HML:Hid ((Aw (MQ (hs++p))).size =32):=Lib.hid (by rw[Dk,JO]);clear hh hr2 hm;go_enter Tryz.func48,Tryz.ntmps48;go_wp2_with fail;obtain⟨zh,hzh⟩: ∃z,z=w.heap.size:=⟨_,rfl⟩;obtain⟨z0,hz0⟩: ∃z,z=w.heap.size+1:=⟨_,rfl⟩;obtain⟨w2,hw2⟩: ∃w2,w2=(w.alloc (.cells (Aw hs) 23)).alloc (.cells (Aw (AP 32)) 23):=⟨_,rfl⟩;have BH:Hid (AT w2 zh 23 (Aw hs)):=Lib.hid (by rw[hw2,hzh];exact(AT.new w _ _).alloc _);have B0:Hid (AT w2 z0 23 (Aw (AP 32))):=Lib.hid (by rw[hw2,hz0];exact AT.new1 w _ _ _);have C2:Hid (Au Ab w w2):=Lib.hid (by rw[hw2];exact((Au.refl _ _).alloc _).alloc _);have hsz:w.heap.size+1+1=w2.heap.size:=by rw[hw2];simp
 change Calls _ _ _ (((w.alloc (.cells (Aw hs) 23)).alloc (.cells (Aw (AP 32)) 23)).alloc _) _;rw[←hw2,hsz,←hz0,←hzh];have hzw:w.heap.size≤z0:=by omega
 clear hw2 hsz hz0 hzh;refine(MZ _ 2 2 [⟨some ⟨zh,0,none⟩,32,hs⟩,⟨B,d,p⟩] _ ?_ rfl (Nat.le_refl _) ?_ ?_ (by decide)).mono ?_
 ·show Rd _ _ [.slice (some ⟨zh,0,none⟩) hs.length 32, .slice B p.length d];rw[HH.out,HM.out];exact Rd.lit _ [_,_] _
 ·intro r hr;simp only[List.mem_cons,List.not_mem_nil,or_false] at hr;rcases hr with rfl|rfl
  ·exact(Iv BH.out).alloc _
  exact(HR2.out.later C2.out).alloc _
 ·have h1:=HH.out;have h2:=HM.out;simp[Lib.lens];omega
 rintro e w6 ⟨A6,n6,c6,rfl,h6,hc6,hg6⟩;rw[show([⟨some ⟨zh,0,none⟩,32,hs⟩,⟨B,d,p⟩]:List La).map (·.p)=[hs,p] from rfl,show[hs,p].flatten =hs++p by simp] at h6;have C6:=Lib.hid ((C2.out.alloc (.cells #[.slice (some ⟨zh,0,none⟩) 32 32, .slice B m d] 55)).step hc6.out (fun _ h=>h.elim));have B6:Hid (AT w6 z0 23 (Aw (AP 32))):=Lib.hid ((B0.out.alloc (.cells #[.slice (some ⟨zh,0,none⟩) 32 32, .slice B m d] 55)).chg hc6.out (fun h=>h));clear hc6 hg6;go_wp2_with fail;refine(KG A6 n6 c6 (hs++p) _ h6.out.rd h6.out.len h6.out.le (by have h1:=h6.out.len;have h2:=HH.out;have h3:=HM.out;simp at h1;omega)).mono ?_;rintro e w7 ⟨rfl,hc7⟩;have C7:=Lib.hid (C6.out.step hc7.out (fun _ h=>h.elim));have B7:=Lib.hid (B6.out.chg hc7.out (fun h=>h));clear hc7 h6;go_wp2_with (refine wpList_store_row rfl 23 _ _ rfl z0 (Aw (MQ (hs++p))) rfl rfl 23 _ B7.out (by rw[HML.out];exact HI25.out) (by rw[HML.out];rfl) (Ek _) ?_);refine bodyPost_ret (v:= .agg (Aw (MQ (hs++p)))) (results_cell_row rfl _ _ z0 23 _ (0,0) _ rfl (B7.out.row_ _) Tryz.underlying23 rfl (by rw[HML.out];exact HI25.out)) rfl ⟨rfl, ?_⟩;exact C7.out.setRow (fun h=>by omega) _
end Go.Proofs.YtjjhceeookpieaaGreat
end
section
set_option maxRecDepth 100000
set_option maxHeartbeats 1600000
open Go Go.RowKit
namespace Go.Proofs.YtjjhceeookpieaaGreat
def Bg (sd:Ak) (p0 p1:Value) (f:Ak) (g v:Int) (tl:List Value):List Value:=bs sd.l++(p0::p1::(bs f.l++(.int .i64 g:: .int .i64 v::tl)))
def Aig:List Value:=[.slice none 0 0, .slice none 0 0, .slice none 0 0, .slice none 0 0, .slice none 0 0, .slice none 0 0, .slice none 0 0]
def Jd:List Value:= .slice none 0 0::Aig
theorem NI (sd:Ak) (p0 p1:Value) (f:Ak) (g v:Int) (tl:List Value) (h:tl.length=8):(Bg sd p0 p1 f g v tl).length =76:=by simp[Bg,Am,h]
theorem LJ (sd:Ak) (p0 p1:Value) (f:Ak) (g v:Int) (tl:List Value) (i:Nat):(Bg sd p0 p1 f g v tl)[32+i]? =(p0::p1::(bs f.l++(.int .i64 g:: .int .i64 v::tl)))[i]? :=by
 rw[Bg,List.getElem?_append_right (by rw[Am,sd.len];omega),Am,sd.len,Nat.add_sub_cancel_left]
theorem Jz (sd:Ak) (p0 p1:Value) (f:Ak) (g v:Int) (tl:List Value) (i:Nat):(Bg sd p0 p1 f g v tl)[68+i]? =tl[i]? :=by
 rw[show 68+i=32+(((32+(i+2))+1)+1) by omega,LJ,List.getElem?_cons_succ,List.getElem?_cons_succ,List.getElem?_append_right (by rw[Am,f.len];omega),Am,f.len,Nat.add_sub_cancel_left,List.getElem?_cons_succ,List.getElem?_cons_succ]
theorem DA (off:Nat) (cs:Array Value) (a o b:List Value) (h:a.length=off) (h2:o.length=cs.size):GH off cs (a++(o++b)).toArray =(a++(cs.toList++b)).toArray :=by
 apply Array.ext';show(a++(o++b)).take off++cs.toList++(a++(o++b)).drop (off+cs.size)=a++(cs.toList++b);rw[List.take_left' h,←List.drop_drop,List.drop_left' h,List.drop_left' h2,List.append_assoc]
theorem Aeo (s0 sd:Ak) (p0 p1:Value) (f:Ak) (g v:Int) (tl:List Value):GH 0 (Aw sd.l) (Bg s0 p0 p1 f g v tl).toArray =(Bg sd p0 p1 f g v tl).toArray :=
 DA 0 (Aw sd.l) [] (bs s0.l) _ rfl (by rw[Am,s0.len];exact sd.size.symm)
theorem Abf (sd:Ak) (p0 p0' p1:Value) (f:Ak) (g v:Int) (tl:List Value):GH 32 #[p0'] (Bg sd p0 p1 f g v tl).toArray =(Bg sd p0' p1 f g v tl).toArray :=
 DA 32 #[p0'] (bs sd.l) [p0] _ (Kd sd) rfl
theorem Abg (sd:Ak) (p0 p1 p1':Value) (f:Ak) (g v:Int) (tl:List Value):GH 33 #[p1'] (Bg sd p0 p1 f g v tl).toArray =(Bg sd p0 p1' f g v tl).toArray :=by
 have h:=DA 33 #[p1'] (bs sd.l++[p0]) [p1] (bs f.l++(.int .i64 g:: .int .i64 v::tl)) (by rw[List.length_append,Kd];rfl) rfl;rw[List.append_assoc,List.append_assoc] at h;exact h
theorem Abh (sd:Ak) (p0 p1:Value):(bs sd.l++[p0,p1]).length =34:=by simp[Am]
theorem Abi (sd:Ak) (p0 p1:Value) (f:Ak) (g v:Int) (tl:List Value):Bg sd p0 p1 f g v tl=(bs sd.l++[p0,p1]++bs f.l)++([.int .i64 g]++(.int .i64 v::tl)):=by simp[Bg]
theorem Abj (sd:Ak) (p0 p1:Value) (f:Ak) (g g' v:Int) (tl:List Value):GH 66 #[.int .i64 g'] (Bg sd p0 p1 f g v tl).toArray =(Bg sd p0 p1 f g' v tl).toArray :=by
 rw[Abi,Abi];exact DA 66 #[.int .i64 g'] (bs sd.l++[p0,p1]++bs f.l) [.int .i64 g] _ (by simp[Am]) rfl
theorem OT (sd:Ak) (p0 p1:Value) (f:Ak) (g v:Int) (tl:List Value):Bg sd p0 p1 f g v tl=(bs sd.l++[p0,p1])++(bs f.l++(.int .i64 g:: .int .i64 v::tl)):=by simp[Bg]
theorem Abk (sd:Ak) (p0 p1:Value) (f f':Ak) (g v:Int) (tl:List Value):GH 34 (Aw f'.l) (Bg sd p0 p1 f g v tl).toArray =(Bg sd p0 p1 f' g v tl).toArray :=by
 rw[OT,OT];exact DA 34 (Aw f'.l) (bs sd.l++[p0,p1]) (bs f.l) _ (Abh sd p0 p1) (by rw[Am,f.len];exact f'.size.symm)
theorem QW (sd:Ak) (a0 a1:Option Addr) (w:World):(Instr.build 84 #[(0, .agg (Aw sd.l)),(1, .pointer a0),(2, .pointer a1),(4, .int .i64 1)]).run Tryz.prog w= .ok (.agg (Bg sd (.pointer a0) (.pointer a1) Aq 1 0 Jd).toArray) w:=by
 refine Cu Tryz.underlying84 (zv:= .agg (Bg Aq (.pointer none) (.pointer none) Aq 0 0 Jd).toArray) (fun _=>by kernel_rfl) (places:=#[(0,32),(32,1),(33,1),(34,32),(66,1),(67,1),(68,1),(69,6),(75,1)]) (fun _=>by kernel_rfl) ?_ w;have hl: ∀s p0 p1 f g v,(Bg s p0 p1 f g v Jd).toArray.size =76:=fun s p0 p1 f g v=>NI s p0 p1 f g v Jd rfl
 show Instr.fill _ (Bg Aq (.pointer none) (.pointer none) Aq 0 0 Jd).toArray [(0, .agg (Aw sd.l)),(1, .pointer a0),(2, .pointer a1),(4, .int .i64 1)]=_;rw[AZ _ _ 0 _ _ (off:=0) (size:=32) rfl (by show(Aw sd.l).size =32;exact sd.size) (by rw[hl];decide)];rw[show GH 0 (Value.agg (Aw sd.l)).cells (Bg Aq (.pointer none) (.pointer none) Aq 0 0 Jd).toArray =(Bg sd (.pointer none) (.pointer none) Aq 0 0 Jd).toArray from Aeo Aq sd _ _ _ _ _ _];rw[AZ _ _ 1 _ _ (off:=32) (size:=1) rfl rfl (by rw[hl];decide)];rw[show GH 32 (Value.pointer a0).cells (Bg sd (.pointer none) (.pointer none) Aq 0 0 Jd).toArray =(Bg sd (.pointer a0) (.pointer none) Aq 0 0 Jd).toArray from Abf _ _ _ _ _ _ _ _];rw[AZ _ _ 2 _ _ (off:=33) (size:=1) rfl rfl (by rw[hl];decide)];rw[show GH 33 (Value.pointer a1).cells (Bg sd (.pointer a0) (.pointer none) Aq 0 0 Jd).toArray =(Bg sd (.pointer a0) (.pointer a1) Aq 0 0 Jd).toArray from Abg _ _ _ _ _ _ _ _];rw[AZ _ _ 4 _ _ (off:=66) (size:=1) rfl rfl (by rw[hl];decide)];rw[show GH 66 (Value.int .i64 1).cells (Bg sd (.pointer a0) (.pointer a1) Aq 0 0 Jd).toArray =(Bg sd (.pointer a0) (.pointer a1) Aq 1 0 Jd).toArray from Abj _ _ _ _ _ _ _ _];rfl
def Ao (sd:Ak) (g:Int):Ak:=Gw (sd.l++[b8 g])
theorem Aep (g:Int) (w:World):(Instr.buildSlice 55 1 #[(0, .int .u8 (g%256))]).run Tryz.prog w= .ok (.slice (some ⟨w.heap.size,0,none⟩) 1 1) (w.alloc (.cells (Aw [b8 g]) 5)):=by rw[Rm];kernel_rfl
theorem JA (sd:Ak) (g:Int) (w:World):
    Calls Tryz.prog 20 #[.agg (Aw sd.l), .int .i64 g] w fun e w'=>∃zk,e= .returned (.pointer (some ⟨zk,0,none⟩))∧Ag Ab w w'∧TD w zk∧AH w' zk (Ao sd g) 0:=by
 have kb:=Aep g;go_enter Tryz.func20,Tryz.ntmps20;go_wp2_with (first|(refine WBs (kb _) ?_;intro zb wb _ _ _)|(refine Bv 2 ?_;intro zs wzs _ _ _)|(refine Cp ?_));refine(Vt sd.l (some ⟨zb,0,none⟩) 1 1 [b8 g] _ sd.len (by have h:=(inferInstance:HR wb (some (⟨zb,0,none⟩:Addr)) (bs [b8 g])).out;exact h) rfl (by decide)).mono ?_;rintro e w5 ⟨rfl,hc5⟩;have st5:Ag Ab wb w5:=⟨hc5.out⟩;clear hc5;go_wp2_with fail;refine(Yu (Ao sd g) 0 _).mono ?_;rintro e w6 ⟨zk,rfl,st6,hz,hk⟩;go_wp2_with fail;go_ret;refine⟨zk,rfl,Aa,⟨?_⟩,hk⟩;exact Nat.le_trans (Aa (w0:=w) (w:=w5)).chg.size hz.out
end Go.Proofs.YtjjhceeookpieaaGreat
end
section
set_option maxRecDepth 100000
set_option maxHeartbeats 1600000
open Go Go.RowKit
namespace Go.Proofs.YtjjhceeookpieaaGreat
instance Am4:AL Tryz.prog 81:=⟨fun _=>by kernel_rfl,fun _=>by kernel_rfl⟩
instance Am5:Cl Tryz.prog 84 76:=⟨by kernel_rfl,_,Tryz.underlying84,rfl⟩
theorem Aih (sd:Ak) (p0 p1:Value) (f:Ak) (g v:Int) (tl:List Value):Eg (Bg sd p0 p1 f g v tl) 33=some p1:=by
 rw[←Bp];exact LJ sd p0 p1 f g v tl 1
theorem Abl (sd:Ak) (p0 p1:Value) (f f':Ak) (g v:Int) (tl:List Value):(Bg sd p0 p1 f g v tl).toArray.toList.take 34++(Aw f'.l).toList ++(Bg sd p0 p1 f g v tl).toArray.toList.drop (34+32)=(Bg sd p0 p1 f' g v tl).toArray.toList :=by
 have h:=congrArg Array.toList (Abk sd p0 p1 f f' g v tl);rw[GH,f'.size] at h;exact h
theorem Agj (sd:Ak) (p0 p1:Value) (f:Ak) (g v:Int) (tl:List Value) (h:tl.length=8):34+32≤(Bg sd p0 p1 f g v tl).toArray.size :=by
 rw[List.size_toArray,NI _ _ _ _ _ _ _ h];decide
theorem PY (sd:Ak) (w:World):
    Calls Tryz.prog 6 #[.agg (Aw sd.l)] w fun e w'=>∃zr z0 z1,e= .returned (.pointer (some ⟨zr,0,none⟩))∧Ag Ab w w'∧Hid (w.heap.size≤zr∧w.heap.size≤z0∧w.heap.size≤z1∧z0≠zr∧z1≠zr∧z0≠z1)∧HB w' zr 84 (Bg sd (.pointer (some ⟨z0,0,none⟩)) (.pointer (some ⟨z1,0,none⟩)) (AQ (Ao sd 1)) 1 0 Jd).toArray ∧AH w' z0 (Ao sd 0) 0∧AH w' z1 (Ao sd 1) 0:=by
 go_enter Tryz.func6,Tryz.ntmps6;go_wp2_with (first|(refine Bv 1 ?_;intro zs wzs _ _ _));have hS:HB wzs zs 23 (Aw sd.l):=inferInstance;have hsl:=hS.out.lt;have hnw:Nw w wzs:=⟨(Aa (w0:=w) (w:=wzs)).chg⟩;refine Ah (Ab) (by kernel_rfl) (fun wd _ _=> ?_);refine KW 0 ?_;refine KW 1 ?_;refine KW 3 ?_;refine Yg 2 fun K_ hK_=> ?_
 go_simp;refine(JA sd 0 _).mono ?_;rintro e w5 ⟨z0,rfl,st5,hz0,hk0⟩;refine Yz hK_ ?_;clear hK_ K_;refine Yg 4 fun K_ hK_=> ?_
 go_simp;refine(JA sd 1 _).mono ?_;rintro e w6 ⟨z1,rfl,st6,hz1,hk1⟩;refine Yz hK_ ?_;clear hK_ K_;refine YB 5 (QW _ _ _) ?_;refine Yh 6 fun K_ hK_=> ?_
 (first|(refine Ji (QW _ _ _ _) ?_)|(refine Bv 10 ?_;intro zr wzr _ _ _)|((with_reducible apply(Jj (dst:=some 10)));exact rfl;intro zr wzr _ _ _)|(refine WBL 10 ?_;intro zr wzr _ _ _)|((with_reducible apply(MI (dst:=some 10)));exact rfl;intro zr wzr _ _ _)|((with_reducible apply(Le (dst:=some 10)));exact rfl;intro zr wzr _ _ _)|((with_reducible apply(MJ (dst:=some 10)));exact rfl;intro zr wzr _ _ _)|((with_reducible apply MH);exact rfl;intro z wz _ _ _)|((with_reducible apply Jj);exact rfl;intro z wz _ _ _)|((with_reducible apply Kk);exact rfl;intro z wz _ _ _)|((with_reducible apply MI);exact rfl;intro z wz _ _ _)|((with_reducible apply Le);exact rfl;intro z wz _ _ _)|((with_reducible apply MJ);exact rfl;intro z wz _ _ _))
 refine Yn hK_ ?_;clear hK_ K_;refine YS 7 ?_;refine Yd ?_;have hR6:HB wzr zr 84 (Bg sd (.pointer (some ⟨z0,0,none⟩)) (.pointer (some ⟨z1,0,none⟩)) Aq 1 0 Jd).toArray :=inferInstance;have s0:w.heap.size≤wzs.heap.size:=hnw.out.size;have s1:wzs.heap.size≤wd.heap.size:=(inferInstance:Ay wzs wd).out;have s5:wd.heap.size≤w5.heap.size:=st5.chg.size;have s6:w5.heap.size≤w6.heap.size:=st6.chg.size;have b0:=hz0.out;have b1:=hz1.out;have l0:=hk0.lt;have l1:=hk1.lt;have br:w6.heap.size≤zr:=Nat.le_of_eq (inferInstance:AW w6 zr).eq.symm;have o1:As (only z1) zr:=⟨fun e=>by have e':zr=z1:=e;omega⟩;have o2:As (only zr) z0:=⟨fun e=>by have e':z0=zr:=e;omega⟩;have o3:As (only zr) z1:=⟨fun e=>by have e':z1=zr:=e;omega⟩;have o4:As (only z1) z0:=⟨fun e=>by have e':z0=z1:=e;omega⟩;have ab1:Cn w (only z1):=⟨fun k h=>by have h':k=z1:=h;omega⟩;have abr:Cn w (only zr):=⟨fun k h=>by have h':k=zr:=h;omega⟩;have hk0r:AH wzr z0 (Ao sd 0) 0:=inferInstance;have hk1r:AH wzr z1 (Ao sd 1) 0:=inferInstance;have nwr:Nw w wzr:=inferInstance;have HPUT:=Lib.hid (Abl sd (.pointer (some ⟨z0,0,none⟩)) (.pointer (some ⟨z1,0,none⟩)) Aq (AQ (Ao sd 1)) 1 0 Jd);have HK34:=Lib.hid (Agj sd (.pointer (some ⟨z0,0,none⟩)) (.pointer (some ⟨z1,0,none⟩)) Aq 1 0 Jd rfl);have HN:Hid (w.heap.size≤zr∧w.heap.size≤z0∧w.heap.size≤z1∧z0≠zr∧z1≠zr∧z0≠z1):=Lib.hid ⟨by omega,by omega,by omega,by omega,by omega,by omega⟩;clear hk0 hk1 st5 st6 hz0 hz1 s0 s1 s5 s6 b0 b1 l0 l1 br hS hsl;go_wp2_with (first|(refine SS 33 hR6 (Aih _ _ _ _ _ _ _) ?_));refine(Bx (zk:=z1) (seed:=Ao sd 1) (used:=0)).mono ?_;rintro e w7 ⟨rfl,st7,hk7⟩;have hR7:HB w7 zr 84 (Bg sd (.pointer (some ⟨z0,0,none⟩)) (.pointer (some ⟨z1,0,none⟩)) Aq 1 0 Jd).toArray :=inferInstance;have hk07:AH w7 z0 (Ao sd 0) 0:=inferInstance;have nw7:Nw w w7:=inferInstance;clear hR6 hk0r hk1r;go_wp2_with (first|((with_reducible apply Ce);exact rfl;exact rfl;exact hR7;infer_instance;exact Ak.size _;(decide);exact HK34.out;exact(Ek _);exact HPUT.out;intro wp stp htp));have k0:AH wp z0 (Ao sd 0) 0:=inferInstance;have k1:AH wp z1 (Ao sd 1) 0:=inferInstance;go_ret;exact⟨zr,z0,z1,rfl,Aa,HN,htp,k0,k1⟩
end Go.Proofs.YtjjhceeookpieaaGreat
end
