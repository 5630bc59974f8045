/- Halves: the greatest power of two below a number. -/
import Derived.Test.YtmijlojjkgeplaaBase
import Derived.Test.YtmijlojjkgeplaaShelf
open Go Go.RowKit
namespace Go.Proofs.Ytmijlojjkgeplaa
def halfN (n : Nat) : Nat := 2 ^ Nat.log2 (n - 1)
theorem halfN_in (n : Nat) (h : 2 ≤ n) : 1 ≤ halfN n ∧ halfN n < n ∧ n ≤ 2 * halfN n := by
  have h1 : n - 1 ≠ 0 := by omega
  have h2 := Nat.log2_self_le h1
  have h3 := @Nat.lt_log2_self (n - 1)
  have h4 : 2 ^ (Nat.log2 (n - 1) + 1) = 2 * 2 ^ Nat.log2 (n - 1) := by rw [Nat.pow_succ, Nat.mul_comm]
  have h5 : 1 ≤ 2 ^ Nat.log2 (n - 1) := Nat.one_le_two_pow
  unfold halfN
  omega
theorem halfN_of (n j : Nat) (h1 : 2 ^ j < n) (h2 : n ≤ 2 * 2 ^ j) : 2 ^ j = halfN n := by
  unfold halfN
  congr 1
  have h3 : n - 1 ≠ 0 := by have : 1 ≤ 2 ^ j := Nat.one_le_two_pow; omega
  exact ((Nat.log2_eq_iff h3).2 ⟨by omega, by rw [Nat.pow_succ]; omega⟩).symm
theorem bitLenAux_log : ∀ (f x : Nat), x ≠ 0 → x < 2 ^ f → Lib.bitLenAux f x = Nat.log2 x + 1
  | 0, x, h0, h => by simp at h; omega
  | f + 1, x, h0, h => by
    rw [Lib.bitLenAux, if_neg h0, Nat.log2_def]
    by_cases h2 : 2 ≤ x
    · rw [if_pos h2, bitLenAux_log f (x / 2) (by omega) (by rw [Nat.pow_succ] at h; omega)]
      omega
    · rw [if_neg h2, show x / 2 = 0 by omega]
      cases f <;> simp [Lib.bitLenAux]
theorem bitLen_log (x : Nat) (h0 : x ≠ 0) (h1 : x < 2 ^ 64) : Lib.bitLen x = Nat.log2 x + 1 := bitLenAux_log 64 x h0 h1
set_option maxRecDepth 100000 in
set_option maxHeartbeats 800000 in
theorem middle_calls (f t : Nat) (w : World) (h : f + 2 ≤ t) (ht : t ≤ 1000) :
    Calls Try.prog 136 #[.int .i64 (f : Int), .int .i64 (t : Int)] w fun e w' => e = .returned (.int .i64 ((f + halfN (t - f) : Nat) : Int)) ∧ Step nowhere w w' := by
  have hh := halfN_in (t - f) (by omega)
  obtain ⟨L, hL⟩ : ∃ L, L = Nat.log2 (t - f - 1) := ⟨_, rfl⟩
  have hp : (2 : Nat) ^ L = halfN (t - f) := by rw [hL]; rfl
  have hLb : L ≤ 10 := by
    have h1 : 2 ^ L ≤ 2 ^ 10 := by rw [hp]; omega
    exact (Nat.pow_le_pow_iff_right (by decide)).1 h1
  have hbl : Lib.bitLen ((t : Int) - f - 1).toNat = L + 1 := by
    rw [show ((t : Int) - f - 1).toNat = t - f - 1 by omega, bitLen_log _ (by omega) (by omega), hL]
  have HBL := Lib.hid hbl
  have hp2 : (2 : Int) ^ L = (halfN (t - f) : Int) := by rw [← hp, Int.natCast_pow]; rfl
  have HP := Lib.hid hp2
  have HF : Hid (wrap64 ((f : Int) + wrap64 ((halfN (t - f) : Nat) : Int)) = ((f + halfN (t - f) : Nat) : Int)) := Lib.hid (by
    have : wrap64 ((halfN (t - f) : Nat) : Int) = ((halfN (t - f) : Nat) : Int) := by unfold wrap64; omega
    rw [this]; unfold wrap64; omega)
  have hx0 : 0 ≤ (t : Int) - f - 1 := by omega
  have hx1 : (t : Int) - f - 1 ≤ 18446744073709551615 := by omega
  clear hbl hp hp2 hL
  go_enter Try.func136, Try.ntmps136
  go_wp2_with (first | fail)
  refine (Try.bits_Len _ _ hx0 hx1).mono ?_
  rw [HBL.out]
  rintro e w1 ⟨rfl, rfl⟩
  go_wp2_with (first | fail)
  go_ret
  rw [HP.out, HF.out]
  exact ⟨rfl, stepN⟩
set_option maxRecDepth 100000 in
set_option maxHeartbeats 800000 in
theorem half_calls (n : Nat) (w : World) (h : 2 ≤ n) (hn : n ≤ 1000) :
    Calls Try.prog 95 #[.int .i64 (n : Int)] w fun e w' => e = .returned (.int .i64 ((halfN n : Nat) : Int)) ∧ Step nowhere w w' := by
  go_enter Try.func95, Try.ntmps95
  go_wp2_with (first | fail)
  go_loopw [3] (fun i wr => ∃ (k : Nat), (∃ j, k = 2 ^ j) ∧ 1 ≤ k ∧ k < n ∧ i = .int .i64 (k : Int) ∧ Step nowhere w wr) (fun i _ => n - (intOf i).toNat)
  case atStart => exact ⟨1, ⟨0, rfl⟩, by omega, by omega, rfl, stepN⟩
  case round =>
    obtain ⟨k, hj, h1, h2, rfl, _⟩ := hrel
    have HJ := Lib.hid hj
    clear hj
    by_cases hlt : 2 * (k : Int) < n
    · go_wp2_with (first | fail)
      refine ⟨⟨2 * k, ?_, by omega, by omega, by go_num, stepN⟩, by simp [intOf]; omega⟩
      obtain ⟨j, hj⟩ := HJ.out
      exact ⟨j + 1, by rw [hj, Nat.pow_succ, Nat.mul_comm]⟩
    · have hk : k = halfN n := by
        obtain ⟨j, hj⟩ := HJ.out
        rw [hj]
        exact halfN_of n j (by omega) (by omega)
      have HK := Lib.hid hk
      clear hk
      go_wp2_with (first | fail)
      go_ret
      rw [← HK.out]
      exact ⟨rfl, stepN⟩
end Go.Proofs.Ytmijlojjkgeplaa
