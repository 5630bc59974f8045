/- FwE -/
import Derived.Test.YthcleccofccbdaaTwTgK
import Derived.Test.YthcleccofccbdaaTwRoH
open Go Go.RowKit
namespace Go.Proofs.Ythcleccofccbdaa
theorem strL_sizeF (l : List UInt8) : (strL l).size = l.length := List.size_toArray ..
set_option maxRecDepth 100000 in
set_option maxHeartbeats 1600000 in
theorem rBefore_calls (a b : TargetR) (w : World) : Calls Try.prog 79 #[.agg (RowC.enc a).toArray, .agg (RowC.enc b).toArray] w fun e w' => e = .returned (.bool (tgLt a b)) ∧ Step nowhere w w' := by
  have hsa : (RowC.enc a).toArray.size = 37 := tgR_len a
  have hsb : (RowC.enc b).toArray.size = 37 := tgR_len b
  have hoa := enc_one a
  have hob := enc_one b
  obtain ⟨R, hR⟩ : ∃ R, R = tgLt a b := ⟨_, rfl⟩
  have HR0 : Hid (R = (Op.bytesLess a.l b.l || (decide (a.l = b.l) && Op.bytesLess a.ecu b.ecu))) := Lib.hid hR
  rw [← hR]
  clear hR
  obtain ⟨Y, hY⟩ : ∃ Y, Y = Op.bytesLess a.l b.l := ⟨_, rfl⟩
  obtain ⟨Z, hZ⟩ : ∃ Z, Z = Op.bytesLess a.ecu b.ecu := ⟨_, rfl⟩
  have h1 : Op.bytesLess (strL a.l).toList (strL b.l).toList = Y := by rw [strL_list, strL_list, hY]
  have h2 : Op.bytesLess (strL a.ecu).toList (strL b.ecu).toList = Z := by rw [strL_list, strL_list, hZ]
  by_cases hE : a.l = b.l
  · have HF : Hid (R = Z) := Lib.hid (by rw [HR0.out, hE, bytesLess_irr, ← hZ]; simp)
    have hn : ((strL a.l).toList == (strL b.l).toList) = true := by rw [hE]; simp
    clear hE hY hZ h1
    go_enter Try.func79, Try.ntmps79
    go_wp2_with (first | ((with_reducible apply (stop_dst (dst := some 6))); (with_reducible apply (wpl_loadcellN (k := 0))); (exact rfl); infer_instance; (exact tgc_0 _)) | ((with_reducible apply (stop_dst (dst := some 8))); (with_reducible apply (wpl_loadcellN (k := 0))); (exact rfl); infer_instance; (exact tgc_0 _)) | ((with_reducible apply (stop_dst (dst := some 16))); (with_reducible apply (wpl_loadcellN (k := 36))); (exact rfl); infer_instance; (exact tgc_36 _)) | ((with_reducible apply (stop_dst (dst := some 18))); (with_reducible apply (wpl_loadcellN (k := 36))); (exact rfl); infer_instance; (exact tgc_36 _)) | ((with_reducible apply (wpl_box_agg (dst := some 2))); (exact rfl); intro za wza _ _ _) | ((with_reducible apply (wpl_box_int (dst := some 2))); (exact rfl); intro za wza _ _ _) | ((with_reducible apply (wpl_box_slice (dst := some 2))); (exact rfl); intro za wza _ _ _) | ((with_reducible apply (wpl_box_str (dst := some 2))); (exact rfl); intro za wza _ _ _) | ((with_reducible apply (wpl_box_bool (dst := some 2))); (exact rfl); intro za wza _ _ _) | ((with_reducible apply (wpl_box_ptr (dst := some 2))); (exact rfl); intro za wza _ _ _) | ((with_reducible apply (wpl_box_agg (dst := some 3))); (exact rfl); intro zb wzb _ _ _) | ((with_reducible apply (wpl_box_int (dst := some 3))); (exact rfl); intro zb wzb _ _ _) | ((with_reducible apply (wpl_box_slice (dst := some 3))); (exact rfl); intro zb wzb _ _ _) | ((with_reducible apply (wpl_box_str (dst := some 3))); (exact rfl); intro zb wzb _ _ _) | ((with_reducible apply (wpl_box_bool (dst := some 3))); (exact rfl); intro zb wzb _ _ _) | ((with_reducible apply (wpl_box_ptr (dst := some 3))); (exact rfl); intro zb wzb _ _ _) | ((with_reducible apply wpl_box_agg); (exact rfl); intro z wz _ _ _) | ((with_reducible apply wpl_box_int); (exact rfl); intro z wz _ _ _) | ((with_reducible apply wpl_box_slice); (exact rfl); intro z wz _ _ _) | ((with_reducible apply wpl_box_str); (exact rfl); intro z wz _ _ _) | ((with_reducible apply wpl_box_bool); (exact rfl); intro z wz _ _ _) | ((with_reducible apply wpl_box_ptr); (exact rfl); intro z wz _ _ _) | ((with_reducible apply wpl_loadrow); (exact rfl); infer_instance; infer_instance; (first | (with_reducible assumption) | (with_reducible exact H32.size _) | (with_reducible exact enc_sz _ rfl) | kernel_rfl)) | ((with_reducible apply wpl_loadcellN); (exact rfl); infer_instance; (exact rfl)))
    go_ret
    rw [HF.out]
    exact ⟨rfl, stepN⟩
  · have HF : Hid (R = Y) := Lib.hid (by rw [HR0.out, decide_eq_false hE, ← hY]; simp)
    have hn : ((strL a.l).toList == (strL b.l).toList) = false := by
      rw [strL_list, strL_list, beq_eq_false_iff_ne]
      exact hE
    clear hE hY hZ h2
    go_enter Try.func79, Try.ntmps79
    go_wp2_with (first | ((with_reducible apply (stop_dst (dst := some 6))); (with_reducible apply (wpl_loadcellN (k := 0))); (exact rfl); infer_instance; (exact tgc_0 _)) | ((with_reducible apply (stop_dst (dst := some 8))); (with_reducible apply (wpl_loadcellN (k := 0))); (exact rfl); infer_instance; (exact tgc_0 _)) | ((with_reducible apply (stop_dst (dst := some 11))); (with_reducible apply (wpl_loadcellN (k := 0))); (exact rfl); infer_instance; (exact tgc_0 _)) | ((with_reducible apply (stop_dst (dst := some 13))); (with_reducible apply (wpl_loadcellN (k := 0))); (exact rfl); infer_instance; (exact tgc_0 _)) | ((with_reducible apply (wpl_box_agg (dst := some 2))); (exact rfl); intro za wza _ _ _) | ((with_reducible apply (wpl_box_int (dst := some 2))); (exact rfl); intro za wza _ _ _) | ((with_reducible apply (wpl_box_slice (dst := some 2))); (exact rfl); intro za wza _ _ _) | ((with_reducible apply (wpl_box_str (dst := some 2))); (exact rfl); intro za wza _ _ _) | ((with_reducible apply (wpl_box_bool (dst := some 2))); (exact rfl); intro za wza _ _ _) | ((with_reducible apply (wpl_box_ptr (dst := some 2))); (exact rfl); intro za wza _ _ _) | ((with_reducible apply (wpl_box_agg (dst := some 3))); (exact rfl); intro zb wzb _ _ _) | ((with_reducible apply (wpl_box_int (dst := some 3))); (exact rfl); intro zb wzb _ _ _) | ((with_reducible apply (wpl_box_slice (dst := some 3))); (exact rfl); intro zb wzb _ _ _) | ((with_reducible apply (wpl_box_str (dst := some 3))); (exact rfl); intro zb wzb _ _ _) | ((with_reducible apply (wpl_box_bool (dst := some 3))); (exact rfl); intro zb wzb _ _ _) | ((with_reducible apply (wpl_box_ptr (dst := some 3))); (exact rfl); intro zb wzb _ _ _) | ((with_reducible apply wpl_box_agg); (exact rfl); intro z wz _ _ _) | ((with_reducible apply wpl_box_int); (exact rfl); intro z wz _ _ _) | ((with_reducible apply wpl_box_slice); (exact rfl); intro z wz _ _ _) | ((with_reducible apply wpl_box_str); (exact rfl); intro z wz _ _ _) | ((with_reducible apply wpl_box_bool); (exact rfl); intro z wz _ _ _) | ((with_reducible apply wpl_box_ptr); (exact rfl); intro z wz _ _ _) | ((with_reducible apply wpl_loadrow); (exact rfl); infer_instance; infer_instance; (first | (with_reducible assumption) | (with_reducible exact H32.size _) | (with_reducible exact enc_sz _ rfl) | kernel_rfl)) | ((with_reducible apply wpl_loadcellN); (exact rfl); infer_instance; (exact rfl)))
    go_ret
    rw [HF.out]
    exact ⟨rfl, stepN⟩
/-- what the first targets come to, one by one -/
def tgPre (P : List TargetR) : Nat → Bool
  | 0 => true
  | k + 1 => tgPre P k && (tgOk (gt P k) && (decide (k = 0) || tgLt (gt P (k - 1)) (gt P k)))
theorem all_gt {α : Type} [RowC α] (f : α → Bool) (P : List α) (k : Nat) (h : k < P.length) : (P.take (k + 1)).all f = ((P.take k).all f && f (gt P k)) := by
  rw [← List.take_append_getElem h, List.all_append]
  simp [gt, List.getD_eq_getElem?_getD, h]
theorem tgPre_eq (P : List TargetR) : ∀ k, k ≤ P.length → tgPre P k = ((P.take k).all tgOk && riseT P k)
  | 0, _ => by simp [tgPre, riseT]
  | k + 1, h => by
    rw [tgPre, tgPre_eq P k (by omega), all_gt tgOk P k (by omega), riseT]
    cases (P.take k).all tgOk <;> cases riseT P k <;> cases tgOk (gt P k) <;> simp
theorem tgPre_no (P : List TargetR) (k : Nat) (h : tgPre P k = false) : ∀ n, k ≤ n → tgPre P n = false
  | 0, hn => by
    obtain rfl : k = 0 := by omega
    exact h
  | n + 1, hn => by
    by_cases e : k = n + 1
    · subst e; exact h
    · rw [tgPre, tgPre_no P k h n (by omega), Bool.false_and]
/-- no elder one of that name, of the first -/
def dlFree (D : List DeleR) (i : Nat) : Nat → Bool
  | 0 => true
  | k + 1 => dlFree D i k && !decide ((gt D k).l = (gt D i).l)
theorem dlFree_no (D : List DeleR) (i k : Nat) (h : dlFree D i k = false) : ∀ n, k ≤ n → dlFree D i n = false
  | 0, hn => by
    obtain rfl : k = 0 := by omega
    exact h
  | n + 1, hn => by
    by_cases e : k = n + 1
    · subst e; exact h
    · rw [dlFree, dlFree_no D i k h n (by omega), Bool.false_and]
def dlPre (D : List DeleR) : Nat → Bool
  | 0 => true
  | k + 1 => dlPre D k && (dlOk (gt D k) && dlFree D k k)
theorem dlPre_no (D : List DeleR) (k : Nat) (h : dlPre D k = false) : ∀ n, k ≤ n → dlPre D n = false
  | 0, hn => by
    obtain rfl : k = 0 := by omega
    exact h
  | n + 1, hn => by
    by_cases e : k = n + 1
    · subst e; exact h
    · rw [dlPre, dlPre_no D k h n (by omega), Bool.false_and]
theorem gt_names (D : List DeleR) (k : Nat) (h : k < D.length) : gt (namesD D) k = (gt D k).l := by
  simp [namesD, gt, List.getD_eq_getElem?_getD, h]
theorem dlFree_eq (D : List DeleR) (i : Nat) : ∀ k, k ≤ D.length → dlFree D i k = !decide ((gt D i).l ∈ (namesD D).take k)
  | 0, _ => by simp [dlFree]
  | k + 1, h => by
    have hk : k < (namesD D).length := by rw [namesD, List.length_map]; omega
    have hg := gt_names D k (by omega)
    have e : (namesD D).take (k + 1) = (namesD D).take k ++ [(gt D k).l] := by
      rw [← List.take_append_getElem hk, ← hg]
      simp [gt, List.getD_eq_getElem?_getD, hk]
    rw [dlFree, dlFree_eq D i k (by omega), e, Bool.eq_iff_iff]
    simp only [Bool.and_eq_true, Bool.not_eq_true', decide_eq_false_iff_not, List.mem_append, List.mem_singleton]
    exact ⟨fun ⟨a, b⟩ c => c.elim a (fun c => b c.symm), fun h => ⟨fun a => h (.inl a), fun b => h (.inr b.symm)⟩⟩
theorem dlPre_eq (D : List DeleR) : ∀ k, k ≤ D.length → dlPre D k = ((D.take k).all dlOk && allS (namesD D) k)
  | 0, _ => by simp [dlPre, allS]
  | k + 1, h => by
    rw [dlPre, dlPre_eq D k (by omega), all_gt dlOk D k (by omega), allS, dlFree_eq D k k (by omega), gt_names D k (by omega)]
    cases (D.take k).all dlOk <;> cases allS (namesD D) k <;> cases dlOk (gt D k) <;> simp
theorem tgsOk_pre (nm : List UInt8) (v e0 : Int) (P : List TargetR) (D : List DeleR) : tgsOk nm v e0 P D = (nameL nm && verB v && numB e0 && decide (P.length ≤ 16) && decide (D.length ≤ 16) && tgPre P P.length && dlPre D D.length) := by
  rw [tgPre_eq P _ (Nat.le_refl _), dlPre_eq D _ (Nat.le_refl _), List.take_length, List.take_length, tgsOk]
  cases nameL nm <;> cases verB v <;> cases numB e0 <;> cases decide (P.length ≤ 16) <;> cases P.all tgOk <;> cases riseT P P.length <;> cases decide (D.length ≤ 16) <;> cases D.all dlOk <;> simp
end Go.Proofs.Ythcleccofccbdaa
