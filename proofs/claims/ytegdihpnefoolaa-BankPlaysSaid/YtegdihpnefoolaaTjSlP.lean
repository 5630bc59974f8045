/- SlP -/
import Derived.Test.YtegdihpnefoolaaTjSlN
import Derived.Test.YtegdihpnefoolaaTjOcRfB
import Derived.Test.YtegdihpnefoolaaTjDgRS
import Derived.Laws.MakeOwn
open Go Go.RowKit
namespace Go.Proofs.Ytegdihpnefoolaa
section
variable {P : Program} {ops : Array Oper} {rest : List Oper} {a : Act} {w : World} {Q : Exit → Act → World → Prop} {dst : Option Tmp} {ty : TypeId} {pos : String} {after : Array Edge}
end
instance slElemB : ElemT Try.prog 22 5 1 1 (.int .u8 0) := ⟨elemB⟩
set_option maxRecDepth 100000 in
set_option maxHeartbeats 1600000 in
theorem refPack_calls {A : Option Addr} {n c : Nat} {b : List UInt8} (v : Int) {w : World} [hr : HR w A (bs b)] (hl : b.length = n) (hn : n ≤ 900000000) :
    Calls Try.prog 22 #[.int .i64 v, .slice A n c] w fun e w' => ∃ A' n' c', e = .returned (.slice A' n' c') ∧ (packS v b).length = n' ∧ HR w' A' (bs (packS v b)) ∧ Step nowhere w w' := by
  have HLL := Lib.hid hl
  have HRR := Lib.hid hr.out
  obtain ⟨px, hpx⟩ : ∃ px, px = packN v b := ⟨_, rfl⟩
  obtain ⟨sx, hsx⟩ : ∃ sx, sx = sha px := ⟨_, rfl⟩
  obtain ⟨S, hS⟩ : ∃ S : H32, S.l = sx := ⟨⟨sx, by rw [hsx]; exact sha_len _⟩, rfl⟩
  have HPX := Lib.hid hpx
  have HSX := Lib.hid hsx
  have HS := Lib.hid hS
  have hpl : px.length ≤ 900000018 := by rw [hpx]; have := packN_len v b (by omega); omega
  have hfin : packS v b = px ++ S.l := by rw [packS, ← hpx, hS, hsx]
  have HFIN := Lib.hid hfin
  clear hl hpx hsx hS hfin
  go_enter Try.func22, Try.ntmps22
  go_wp2_with (first | ((with_reducible apply wpl_alloc); intro z wz _ _ _) | ((with_reducible apply wpl_storerow); (exact rfl); (exact rfl); infer_instance; infer_instance; (first | (with_reducible assumption) | (with_reducible exact H32.size _) | kernel_rfl); (first | (with_reducible assumption) | (with_reducible exact H32.size _) | kernel_rfl); (first | (with_reducible exact u8s_one _) | (with_reducible assumption) | kernel_rfl); intro ws _ _) | ((with_reducible apply wpl_storecell); (exact rfl); (exact rfl); infer_instance; (exact rfl); (first | (with_reducible assumption) | omega | (focus (simp; done)) | (focus (simp; omega; done)) | decide); intro ws _ _))
  refine (refNum_calls v _).mono ?_
  rintro e w1 ⟨A1, n1, c1, rfl, f1⟩
  have s1 : Step nowhere w w1 := ⟨f1.out.chg⟩
  have o1 : HO w1 5 1 A1 n1 c1 (bs (enc (clampN v))) := ⟨f1.out.own⟩
  have na1 : NewA w A1 := ⟨f1.out.new⟩
  have hn1 : n1 ≤ 9 := by rw [f1.out.len]; exact enc_len _ (clampN_le v)
  go_wp2_with (first | ((with_reducible apply wpl_alloc); intro z wz _ _ _) | ((with_reducible apply wpl_storerow); (exact rfl); (exact rfl); infer_instance; infer_instance; (first | (with_reducible assumption) | (with_reducible exact H32.size _) | kernel_rfl); (first | (with_reducible assumption) | (with_reducible exact H32.size _) | kernel_rfl); (first | (with_reducible exact u8s_one _) | (with_reducible assumption) | kernel_rfl); intro ws _ _) | ((with_reducible apply wpl_storecell); (exact rfl); (exact rfl); infer_instance; (exact rfl); (first | (with_reducible assumption) | omega | (focus (simp; done)) | (focus (simp; omega; done)) | decide); intro ws _ _))
  refine (refBytes_calls A n c b w1 (HRR.out.later s1.chg) HLL.out (by omega)).mono ?_
  rintro e w2 ⟨A2, n2, c2, rfl, f2⟩
  have s2 : Step nowhere w1 w2 := ⟨f2.out.chg⟩
  have o2 : HO w2 5 1 A2 n2 c2 (bs (encRow b)) := ⟨f2.out.own⟩
  have na2 : NewA w1 A2 := ⟨f2.out.new⟩
  have hl2 : (encRow b).length = n2 := f2.out.len.symm
  have hn2 : n2 ≤ 900000010 := by
    rw [← hl2, encRow, List.length_append]
    have h1 := enc_len b.length (by have := HLL.out; omega)
    have := HLL.out
    omega
  have hlim : n1 + n2 ≤ 100000000000 := by omega
  go_wp2_with (first | ((with_reducible apply wpl_appendB); (exact rfl); (exact rfl); infer_instance; infer_instance; infer_instance; (exact hl2); (exact hlim); intro A3 c3 wa _ hO3 _ hcap3) | ((with_reducible apply wpl_alloc); intro z wz _ _ _) | ((with_reducible apply wpl_storerow); (exact rfl); (exact rfl); infer_instance; infer_instance; (first | (with_reducible assumption) | (with_reducible exact H32.size _) | kernel_rfl); (first | (with_reducible assumption) | (with_reducible exact H32.size _) | kernel_rfl); (first | (with_reducible exact u8s_one _) | (with_reducible assumption) | kernel_rfl); intro ws _ _) | ((with_reducible apply wpl_storecell); (exact rfl); (exact rfl); infer_instance; (exact rfl); (first | (with_reducible assumption) | omega | (focus (simp; done)) | (focus (simp; omega; done)) | decide); intro ws _ _))
  have hx3 : enc (clampN v) ++ encRow b = px := by rw [HPX.out, packN]; simp [encAll]
  rw [hx3] at hO3
  have hl3 : px.length = n1 + n2 := by rw [← hx3, List.length_append, hl2, f1.out.len]
  have nw3 : Nw w wa := inferInstance
  have na3 : NewA w A3 := inferInstance
  have HL3 := Lib.hid hl3
  clear hl3 hx3 hl2
  go_wp2_with (first | ((with_reducible apply wpl_alloc); intro z wz _ _ _) | ((with_reducible apply wpl_storerow); (exact rfl); (exact rfl); infer_instance; infer_instance; (first | (with_reducible assumption) | (with_reducible exact H32.size _) | kernel_rfl); (first | (with_reducible assumption) | (with_reducible exact H32.size _) | kernel_rfl); (first | (with_reducible exact u8s_one _) | (with_reducible assumption) | kernel_rfl); intro ws _ _) | ((with_reducible apply wpl_storecell); (exact rfl); (exact rfl); infer_instance; (exact rfl); (first | (with_reducible assumption) | omega | (focus (simp; done)) | (focus (simp; omega; done)) | decide); intro ws _ _))
  refine (dRefSum_calls A3 (n1 + n2) c3 px wa hO3.out.rd HL3.out (by omega)).mono ?_
  rw [← HSX.out, ← HS.out]
  rintro e w5 ⟨rfl, hc5⟩
  have s5 : Step nowhere wa w5 := ⟨hc5.out⟩
  have nw5 : Nw w w5 := inferInstance
  have hlim2 : n1 + n2 + 32 ≤ 100000000000 := by omega
  clear hc5
  go_wp2_with (first | ((with_reducible apply (wpl_sliceAr (t := 52) (s := 1))); (exact rfl); (exact Try.underlying52); (kernel_rfl)) | ((with_reducible apply wpl_appendB); (exact rfl); (exact rfl); infer_instance; infer_instance; infer_instance; (exact S.len); (exact hlim2); intro A6 c6 wz _ hO6 _ hcap6) | ((with_reducible apply (wpl_alloc (dst := some 6))); intro zs wzs _ _ _) | ((with_reducible apply wpl_alloc); intro z wz _ _ _) | ((with_reducible apply wpl_storerow); (exact rfl); (exact rfl); infer_instance; infer_instance; (first | (with_reducible assumption) | (with_reducible exact H32.size _) | kernel_rfl); (first | (with_reducible assumption) | (with_reducible exact H32.size _) | kernel_rfl); (first | (with_reducible exact u8s_one _) | (with_reducible assumption) | kernel_rfl); intro ws _ _) | ((with_reducible apply wpl_storecell); (exact rfl); (exact rfl); infer_instance; (exact rfl); (first | (with_reducible assumption) | omega | (focus (simp; done)) | (focus (simp; omega; done)) | decide); intro ws _ _))
  go_ret
  rw [HFIN.out]
  exact ⟨A6, _, c6, rfl, by rw [List.length_append, HL3.out, S.len], inferInstance, stepN⟩
end Go.Proofs.Ytegdihpnefoolaa
