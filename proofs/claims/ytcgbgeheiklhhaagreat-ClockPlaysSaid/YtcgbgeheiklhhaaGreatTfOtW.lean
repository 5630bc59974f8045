/- OtW -/
import Derived.Test.YtcgbgeheiklhhaaGreatTfOcRfB
import Derived.StillTailTactics
open Go Go.RowKit
namespace Go.Proofs.YtcgbgeheiklhhaaGreat
/-- one step of a chain -/
def walkRow (chain : Int) (i : Nat) (h : H32) : List UInt8 := 1 :: b8 chain :: b8 i :: h.l
theorem walkRow_len (chain : Int) (i : Nat) (h : H32) : (walkRow chain i h).length = 35 := by simp [walkRow, h.len]
def stepH (chain : Int) (i : Nat) (h : H32) : H32 := shaH (walkRow chain i h)
/-- n steps from one on -/
def walkN (chain : Int) : Nat → Nat → H32 → H32
  | _, 0, h => h
  | i, n + 1, h => walkN chain (i + 1) n (stepH chain i h)
def walkS (chain f t : Int) (h : H32) : H32 := walkN chain (max f 0).toNat (min t 3 - max f 0).toNat h
theorem walkN_snoc (chain : Int) : ∀ (i n : Nat) (h : H32), walkN chain i (n + 1) h = stepH chain (i + n) (walkN chain i n h)
  | i, 0, h => rfl
  | i, n + 1, h => by
    have e := walkN_snoc chain (i + 1) n (stepH chain i h)
    have e2 : i + 1 + n = i + (n + 1) := by omega
    rw [e2] at e
    exact e
set_option maxRecDepth 100000 in
set_option maxHeartbeats 800000 in
theorem walk_calls (h : H32) (chain f t : Int) (w : World) :
    Calls Tryz.prog 86 #[.agg (u8s h.l), .int .i64 chain, .int .i64 f, .int .i64 t] w fun e w' => e = .returned (.agg (u8s (walkS chain f t h).l)) ∧ Step nowhere w w' := by
  have kb : ∀ w, (Instr.build 151 #[(0, .int .u8 1), (1, .int .u8 (chain % 256))]).run Tryz.prog w = .ok (.agg (u8s (1 :: b8 chain :: nots 33))) w := fun _ => by rw [mod_b8]; kernel_rfl
  obtain ⟨s, hs⟩ : ∃ s : Nat, (s : Int) = max f 0 := ⟨(max f 0).toNat, by omega⟩
  have hs' : max f 0 = (s : Int) := hs.symm
  obtain ⟨n, hn⟩ : ∃ n : Nat, n = (min t 3 - max f 0).toNat := ⟨_, rfl⟩
  have HN := Lib.hid hn
  have HS : Hid ((max f 0).toNat = s) := Lib.hid (by omega)
  have hn1 : (s : Int) + n ≤ 3 ∨ n = 0 := by omega
  have hn2 : ∀ k : Nat, k < n → (s : Int) + k < min t 3 := fun k hk => by omega
  have HE : Hid (∀ k : Nat, k ≤ n → ¬ k < n → ¬ (s : Int) + k < min t 3) := Lib.hid (fun k h1 h2 => by omega)
  have HL := Lib.hid hn2
  clear hn hs hn2
  go_enter Tryz.func86, Tryz.ntmps86
  go_wp2_with (first | ((with_reducible apply wpl_build); (exact kb _)) | ((with_reducible apply (wpl_box_agg (dst := some 4))); (exact rfl); intro zh wzh _ _ _) | ((with_reducible apply (wpl_alloc (dst := some 8))); intro zo wzo _ _ _) | ((with_reducible apply (wpl_alloc (dst := some 9))); intro zr wzr _ _ _) | ((with_reducible apply wpl_storerow); (exact rfl); (exact rfl); infer_instance; infer_instance; (first | (with_reducible assumption) | (with_reducible exact H32.size _) | kernel_rfl); (first | (with_reducible assumption) | (with_reducible exact H32.size _) | kernel_rfl); (first | (with_reducible exact u8s_one _) | (with_reducible assumption) | kernel_rfl); intro ws _ _) | ((with_reducible apply wpl_max); (exact rfl); (exact rfl)))
  go_loopw [10] (fun i wr => ∃ k : Nat, k ≤ n ∧ i = .int .i64 ((s : Int) + k) ∧ Step nowhere w wr ∧ HB wr zo 23 (u8s zeroH.l) ∧ HB wr zh 23 (u8s (walkN chain s k h).l) ∧ ∃ b ys, ys.length = 32 ∧ HB wr zr 151 (u8s (1 :: b8 chain :: b :: ys))) (fun i _ => (s + n) - (intOf i).toNat)
  case atStart => exact ⟨0, Nat.zero_le _, by rw [Int.natCast_zero, Int.add_zero], stepN, inferInstance, inferInstance, 0, nots 32, rfl, inferInstance⟩
  case round =>
    obtain ⟨k, hk, rfl, _, _, _, b, ys, hys, _⟩ := hrel
    have hlen : (1 :: b8 chain :: b :: ys).length = 35 := by simp [hys]
    by_cases hlt : k < n
    · have hlt3 := HL.out k hlt
      go_wp2_with (first | ((with_reducible apply (wpl_storebyte (t := 5))); (exact rfl); (exact rfl); infer_instance; (first | (with_reducible assumption) | omega | (focus (simp; done)) | (focus (simp; omega; done)) | decide); (constructor <;> omega); intro ws _ _) | ((with_reducible apply wpl_min); (exact rfl); (exact rfl)))
      go_still_tail 2, (by kernel_rfl)
      change wpList _ _ _ _ _ (World.drew _)
      go_wp2_with (first | ((with_reducible apply wpl_copy); (exact Tryz.underlying36); (kernel_rfl); (exact rfl); (exact rfl); infer_instance; infer_instance; (first | (with_reducible assumption) | (with_reducible exact H32.len _) | (focus (simp; done))); (first | (with_reducible assumption) | omega); (first | (with_reducible assumption) | omega | (focus (simp; done)) | (focus (simp; omega; done)) | decide); intro wc _ _))
      have hB := HB.eq (ys := walkRow chain (s + k) (walkN chain s k h)) (inferInstance : HB wc zr 151 _) (by simp [walkRow, hys])
      refine (sum_calls (xs := walkRow chain (s + k) (walkN chain s k h)) (walkRow_len _ _ _) (Nat.le_refl _) (by decide)).mono ?_
      rintro e w5 ⟨rfl, _⟩
      go_wp2_with (first | ((with_reducible apply wpl_storerow); (exact rfl); (exact rfl); infer_instance; infer_instance; (first | (with_reducible assumption) | (with_reducible exact H32.size _) | kernel_rfl); (first | (with_reducible assumption) | (with_reducible exact H32.size _) | kernel_rfl); (first | (with_reducible exact u8s_one _) | (with_reducible assumption) | kernel_rfl); intro ws _ _))
      refine ⟨⟨k + 1, by omega, ?_, stepN, inferInstance, ?_, b8 (s + k), (walkN chain s k h).l, H32.len _, ?_⟩, ?_⟩
      · go_num
      · rw [walkN_snoc]; exact inferInstance
      · show HB _ zr _ (u8s (walkRow chain (s + k) (walkN chain s k h)))
        exact inferInstance
      · simp [intOf]; omega
    · have hge := HE.out k hk hlt
      have hge' : ¬ (s : Int) + k < min t 3 := by omega
      obtain rfl : k = n := by omega
      go_wp2_with (first | ((with_reducible apply wpl_loadrow); (exact rfl); infer_instance; infer_instance; (first | (with_reducible assumption) | (with_reducible exact H32.size _) | kernel_rfl)) | ((with_reducible apply wpl_storerow); (exact rfl); (exact rfl); infer_instance; infer_instance; (first | (with_reducible assumption) | (with_reducible exact H32.size _) | kernel_rfl); (first | (with_reducible assumption) | (with_reducible exact H32.size _) | kernel_rfl); (first | (with_reducible exact u8s_one _) | (with_reducible assumption) | kernel_rfl); intro ws _ _) | ((with_reducible apply wpl_min); (exact rfl); (exact rfl)))
      refine ret_row rfl rfl (n := 32) (H32.size _) rfl ⟨?_, stepN⟩
      rw [walkS, HS.out, HN.out]
end Go.Proofs.YtcgbgeheiklhhaaGreat
