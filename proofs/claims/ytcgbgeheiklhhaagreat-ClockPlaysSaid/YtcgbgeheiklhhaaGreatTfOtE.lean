/- OtE -/
import Derived.Test.YtcgbgeheiklhhaaGreatTfOtW
open Go Go.RowKit
namespace Go.Proofs.YtcgbgeheiklhhaaGreat
def joinH (l : List H32) : List UInt8 := l.flatMap (·.l)
theorem joinH_len (l : List H32) : (joinH l).length = l.length * 32 := by
  induction l with
  | nil => rfl
  | cons a l ih => simp only [joinH, List.flatMap_cons, List.length_append, a.len] at *; rw [ih, List.length_cons]; omega
theorem joinH_snoc (l : List H32) (x : H32) : joinH (l ++ [x]) = joinH l ++ x.l := by simp [joinH]
theorem take_hget (l : List H32) (k : Nat) (h : k < l.length) : l.take (k + 1) = l.take k ++ [hget l k] := by
  rw [List.take_add_one, hget, List.getD_eq_getElem?_getD, List.getElem?_eq_getElem h]
  rfl
def closedS (l : List H32) : H32 := shaH (2 :: joinH l)
set_option maxRecDepth 100000 in
set_option maxHeartbeats 800000 in
theorem closed_calls {A : Option Addr} {n c : Nat} {l : List H32} {w : World} [HR w A (cellsOf l)] (hl : l.length = n) (hn : n ≤ 1000000) :
    Calls Tryz.prog 82 #[.slice A n c] w fun e w' => e = .returned (.agg (u8s (closedS l).l)) ∧ Step nowhere w w' := by
  have kb : ∀ w, (Instr.buildSlice 36 1 #[(0, .int .u8 2)]).run Tryz.prog w = .ok (.slice (some ⟨w.heap.size, 0, none⟩) 1 1) (w.alloc (.cells (u8s [2]) 5)) := fun _ => by kernel_rfl
  have hm1 : Fact' ([(2 : UInt8)].length ≤ maxLen) := ⟨by decide⟩
  have HL := Lib.hid hl
  clear hl
  go_enter Tryz.func82, Tryz.ntmps82
  go_wp2_with (first | ((with_reducible apply wpl_bslice); (exact kb _); intro zb wb _ _ _) | ((with_reducible apply (wpl_alloc (dst := some 2))); intro zo wzo _ _ _))
  go_loopw [3, 9] (fun v i wr => ∃ (k : Nat) (A' : Option Addr) (c' : Nat), k ≤ n ∧ i = .int .i64 (k : Int) ∧ v = .slice A' (1 + 32 * k) c' ∧ 1 + 32 * k ≤ c' ∧ Step nowhere w wr ∧ HB wr zo 23 (u8s zeroH.l) ∧ NewA w A' ∧ OffB (rowOf A') zo ∧ HO wr 5 1 A' (1 + 32 * k) c' (bs (2 :: joinH (l.take k)))) (fun _ i _ => n - (intOf i).toNat)
  case atStart =>
    refine ⟨0, some ⟨zb, 0, none⟩, 1, Nat.zero_le _, rfl, rfl, Nat.le_refl _, stepN, inferInstance, NewA.mono (w := _) (NewA.of_born 0), inferInstance, ?_⟩
    show HO _ _ 1 _ [(2 : UInt8)].length [(2 : UInt8)].length (bs [2])
    exact inferInstance
  case round =>
    obtain ⟨k, A', c', hk, rfl, rfl, hcap0, _, _, _, _, _⟩ := hrel
    by_cases hlt : k < n
    · have hkl : k < l.length := by have := HL.out; omega
      have hln := HL.out
      have hsn : Hid (2 :: joinH (l.take (k + 1)) = 2 :: joinH (l.take k) ++ (hget l k).l) := Lib.hid (by rw [take_hget l k hkl, joinH_snoc]; rfl)
      go_wp2_with (first | ((with_reducible apply (wpl_alloc (dst := some 5))); intro zh wzh _ _ _) | ((with_reducible apply wpl_storerow); (exact rfl); (exact rfl); infer_instance; infer_instance; (first | (with_reducible assumption) | (with_reducible exact H32.size _) | kernel_rfl); (first | (with_reducible assumption) | (with_reducible exact H32.size _) | kernel_rfl); (first | (with_reducible exact u8s_one _) | (with_reducible assumption) | kernel_rfl); intro ws _ _) | ((with_reducible apply wpl_indexH); (exact rfl); (exact rfl); infer_instance; infer_instance; (first | (with_reducible assumption) | omega); (first | (with_reducible assumption) | omega); (first | (with_reducible assumption) | omega)) | ((with_reducible apply (wpl_loadhash (t := 23))); (exact rfl); infer_instance; infer_instance; (first | (with_reducible assumption) | omega)) | ((with_reducible apply wpl_appendB); (exact rfl); (exact rfl); infer_instance; (first | exact inferInstance | exact ⟨Own.nil _ _ _⟩); infer_instance; (first | (with_reducible assumption) | (with_reducible exact H32.len _) | (focus (simp; done)) | omega); (first | (with_reducible assumption) | omega); intro A' c' wa _ _ _ hcap))
      refine ⟨⟨k + 1, _, _, by omega, ?_, rfl, hcap, stepN, inferInstance, inferInstance, inferInstance, ?_⟩, ?_⟩
      · go_num
      · rw [hsn.out]; exact inferInstance
      · simp [intOf]; omega
    · obtain rfl : k = n := by omega
      have hll := HL.out
      have hLT : Hid (l.take l.length = l) := Lib.hid (List.take_length)
      go_wp2_with fail
      refine (sum_calls (xs := 2 :: joinH (l.take k)) (by rw [List.length_cons, joinH_len, List.length_take]; omega) (by omega) (by omega)).mono ?_
      rintro e w5 ⟨rfl, _⟩
      go_wp2_with (first | ((with_reducible apply wpl_storerow); (exact rfl); (exact rfl); infer_instance; infer_instance; (first | (with_reducible assumption) | (with_reducible exact H32.size _) | kernel_rfl); (first | (with_reducible assumption) | (with_reducible exact H32.size _) | kernel_rfl); (first | (with_reducible exact u8s_one _) | (with_reducible assumption) | kernel_rfl); intro ws _ _))
      refine ret_row rfl rfl (n := 32) (H32.size _) rfl ⟨?_, stepN⟩
      rw [closedS, ← hll, hLT.out]
set_option maxRecDepth 100000 in
set_option maxHeartbeats 800000 in
theorem ends_calls {A : Option Addr} {n c : Nat} {l : List H32} {w : World} [HR w A (cellsOf l)] (hl : l.length = n) (hn : n ≤ 1000000) :
    Calls Tryz.prog 55 #[.slice A n c] w fun e w' => e = .returned (.agg (u8s (closedS l).l)) ∧ Step nowhere w w' := by
  have kb : ∀ w, (Instr.buildSlice 36 1 #[(0, .int .u8 2)]).run Tryz.prog w = .ok (.slice (some ⟨w.heap.size, 0, none⟩) 1 1) (w.alloc (.cells (u8s [2]) 5)) := fun _ => by kernel_rfl
  have hm1 : Fact' ([(2 : UInt8)].length ≤ maxLen) := ⟨by decide⟩
  have HL := Lib.hid hl
  clear hl
  go_enter Tryz.func55, Tryz.ntmps55
  go_wp2_with (first | ((with_reducible apply wpl_bslice); (exact kb _); intro zb wb _ _ _) | ((with_reducible apply (wpl_alloc (dst := some 2))); intro zo wzo _ _ _))
  go_loopw [3, 4] (fun v i wr => ∃ (k : Nat) (A' : Option Addr) (c' : Nat), k ≤ n ∧ i = .int .i64 (k : Int) ∧ v = .slice A' (1 + 32 * k) c' ∧ 1 + 32 * k ≤ c' ∧ Step nowhere w wr ∧ HB wr zo 23 (u8s zeroH.l) ∧ NewA w A' ∧ OffB (rowOf A') zo ∧ HO wr 5 1 A' (1 + 32 * k) c' (bs (2 :: joinH (l.take k)))) (fun _ i _ => n - (intOf i).toNat)
  case atStart =>
    refine ⟨0, some ⟨zb, 0, none⟩, 1, Nat.zero_le _, rfl, rfl, Nat.le_refl _, stepN, inferInstance, NewA.mono (w := _) (NewA.of_born 0), inferInstance, ?_⟩
    show HO _ _ 1 _ [(2 : UInt8)].length [(2 : UInt8)].length (bs [2])
    exact inferInstance
  case round =>
    obtain ⟨k, A', c', hk, rfl, rfl, hcap0, _, _, _, _, _⟩ := hrel
    by_cases hlt : k < n
    · have hkl : k < l.length := by have := HL.out; omega
      have hln := HL.out
      have hki : Fact' (k < l.length) := ⟨hkl⟩
      have hsn : Hid (2 :: joinH (l.take (k + 1)) = 2 :: joinH (l.take k) ++ (hget l k).l) := Lib.hid (by rw [take_hget l k hkl, joinH_snoc]; rfl)
      go_wp2_with (first | ((with_reducible apply wpl_indexH); (exact rfl); (exact rfl); infer_instance; infer_instance; (first | (with_reducible assumption) | omega); (first | (with_reducible assumption) | omega); (first | (with_reducible assumption) | omega)) | ((with_reducible apply wpl_sliceH); (exact rfl); (exact Tryz.underlying23); (kernel_rfl); infer_instance; (first | (with_reducible assumption) | omega)) | ((with_reducible apply wpl_appendB); (exact rfl); (exact rfl); infer_instance; (first | exact inferInstance | exact ⟨Own.nil _ _ _⟩); infer_instance; (first | (with_reducible assumption) | (with_reducible exact H32.len _) | (focus (simp; done)) | omega); (first | (with_reducible assumption) | omega); intro A' c' wa _ _ _ hcap))
      refine ⟨⟨k + 1, _, _, by omega, ?_, rfl, hcap, stepN, inferInstance, inferInstance, inferInstance, ?_⟩, ?_⟩
      · go_num
      · rw [hsn.out]; exact inferInstance
      · simp [intOf]; omega
    · obtain rfl : k = n := by omega
      have hll := HL.out
      have hLT : Hid (l.take l.length = l) := Lib.hid (List.take_length)
      go_wp2_with fail
      refine (rsum_calls (xs := 2 :: joinH (l.take k)) (by rw [List.length_cons, joinH_len, List.length_take]; omega) (by omega)).mono ?_
      rintro e w5 ⟨rfl, _⟩
      go_wp2_with (first | ((with_reducible apply wpl_storerow); (exact rfl); (exact rfl); infer_instance; infer_instance; (first | (with_reducible assumption) | (with_reducible exact H32.size _) | kernel_rfl); (first | (with_reducible assumption) | (with_reducible exact H32.size _) | kernel_rfl); (first | (with_reducible exact u8s_one _) | (with_reducible assumption) | kernel_rfl); intro ws _ _))
      refine ret_row rfl rfl (n := 32) (H32.size _) rfl ⟨?_, stepN⟩
      rw [closedS, ← hll, hLT.out]
end Go.Proofs.YtcgbgeheiklhhaaGreat
