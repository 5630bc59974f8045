/- UpR -/
import Derived.Test.YtjjhceeookpieaaGreatUhZ
import Derived.Test.YtjjhceeookpieaaGreatUhRlN
import Derived.Test.YtjjhceeookpieaaGreatUhUpA
set_option maxRecDepth 100000
set_option maxHeartbeats 3200000
open Go Go.RowKit
namespace Go.Proofs.YtjjhceeookpieaaGreat
theorem US {w:World} {zr:Nat} {s:Il} (R:FV w zr s):
    Calls Tryz.prog 7 #[.pointer (some ⟨zr,0,none⟩)] w fun e w'=>∃K:List KR,e= .returned (.agg (BA 1 1073741824 K).toArray)∧K.length=4∧Hq w w' zr s s∧Hid ((∀k∈K,BN w' k∧Aj w k.A)∧K.map KR.m=Vf (AQ (Ao s.sd 0)) s.f):=by
 have hb:=R.hb;have hk:=R.k0;have hzk:=hk.lt;have hzr:=hb.out.lt;have hne:=R.ap.1;obtain⟨zk,hzkE⟩: ∃zk,zk=s.z0:=⟨_,rfl⟩;have HZ:=Lib.hid hzkE;rw[←hzkE] at hb hk hzk hne;clear hzkE;go_enter Tryz.func7,Tryz.ntmps7;go_wp2_with (first|(refine BB 2 ?_;intro zo wzo _ _ _));have hzo:w.heap.size≤zo:=Nat.le_of_eq (inferInstance:AW w zo).eq.symm;have hbo:HB wzo zo 33 (BA 0 0 DJ).toArray :=inferInstance;have hkr:AH wzo zk (Ao s.sd 0) s.u0:=inferInstance;have hbr:HB wzo zr 84 (Bg s.sd (.pointer (some ⟨zk,0,none⟩)) (.pointer (some ⟨s.z1,0,none⟩)) s.f s.g s.v s.tl).toArray :=inferInstance;have otr:As (FF zk zo) zr:=⟨fun h=>by rcases h with h|h<;>omega⟩;have oko:As (only zk) zo:=⟨fun e=>by have e':zo=zk:=e;omega⟩;have ook:As (only zo) zk:=⟨fun e=>by have e':zk=zo:=e;omega⟩;have hzol:=hbo.out.lt;refine Ah ((FF zk zo)) (by kernel_rfl) (fun wd _ _=> ?_);refine YS 0 ?_;refine YS 1 ?_;refine YS 2 ?_;refine IS 3 32 (QZ _ _ _ _ _ _ _) ?_;refine YS 5 ?_;refine YS 6 ?_;refine YS 7 ?_;refine' tk 8 _ rfl (by kernel_rfl) (by kernel_rfl) (by kernel_rfl) (fun _ _ _ h=>h) (yo (by rfl) fun w' _=> ?_) inferInstance ?_;rotate_left
 ·((apply(Ew (k:=34) (n:=32)));exact rfl;infer_instance;infer_instance;(decide);exact Aip _ _ _ _ _ _ _;(rw[Am,Ak.len]))
 try simp only[Act.put,sA,sB,sC]
 refine Yg 4 fun K_ hK_=> ?_
 go_simp;refine(Bx (zk:=zk) (seed:=Ao s.sd 0) (used:=s.u0)).mono ?_;rintro e w5 ⟨rfl,st5,hk5⟩;refine Yz hK_ ?_;clear hK_ K_;refine Yg 9 fun K_ hK_=> ?_
 go_simp;refine(Ku 1 _ _ _).mono ?_;rintro e w6 ⟨K,rfl,hK,st6,hKM⟩;have hsz:Hid ((BA 1 1073741824 K).toArray.size =10):=Lib.hid (BG _ _ K hK);have hs5:wzo.heap.size≤w5.heap.size:=(inferInstance:Ay wzo w5).out;refine Yz hK_ ?_;clear hK_ K_;refine Yh 10 fun K_ hK_=> ?_
 (first|(refine NN hsz.out (BG 0 0 DJ rfl) (Bq _ _ _) ?_;intro wz stz hz)|(refine Bt ?_;intro ws _ _)|(refine KZ ?_;intro ws _ _)|(refine WSH 23 ?_;intro ws _ _)|((with_reducible apply(Es (t:=5)));exact rfl;exact rfl;infer_instance;(first|(with_reducible assumption)|omega);(first|(with_reducible assumption)|omega);(first|(constructor<;>omega)|exact Ib _ _);intro ws _ _)|(refine ZD 3 ?_;intro ws _ _)|(refine WSX 5 ?_;intro ws _ _))
 refine Ym hK_ ?_;clear hK_ K_;refine Yd ?_
 all_goals
  have hkw:AH wz zk (Ao s.sd 0) s.u0:=inferInstance;have hcw:Au (FF zk zo) wzo wz:=(inferInstance:Ch (FF zk zo) wzo wz).out;have hcs:Au Ab w wzo:=(Aa (w0:=w) (w:=wzo)).chg;have hfin:Au (only zk) w wz:=(hcs.mono (T:=only zk) (fun _ _ h=>h.elim)).trans hcw (fun x hx h=>by
   rcases h with h|h
   ·exact h
   omega)
  have hc6:Au (only zo) w6 wz:=stz.chg;have hszo:=hcs.size;go_wp2_with fail;refine Bo rfl rfl (n:=10) hsz.out rfl ⟨K,rfl,hK,R.next0 (by rw[←HZ.out];exact hfin) (by rw[←HZ.out];exact hkw),Lib.hid ⟨fun k hk9=>⟨?_,⟨fun ad e=>Nat.le_trans (Nat.le_trans hszo hs5) ((hKM.out.1 k hk9).2.out ad e)⟩⟩,hKM.out.2⟩⟩;exact(hKM.out.1 k hk9).1.chg hc6 (fun x ⟨_,ad,e,hx⟩ h=>by
   have h':x=zo:=h;have:=(hKM.out.1 k hk9).2.out ad e;omega)
end Go.Proofs.YtjjhceeookpieaaGreat
