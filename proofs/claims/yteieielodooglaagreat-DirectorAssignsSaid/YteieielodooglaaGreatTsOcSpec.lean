/- OcSpec -/
import Derived.Test.YteieielodooglaaGreatTsBase
namespace Go.Proofs.YteieielodooglaaGreat
/-- a number in digits of seven bits, the lowest first; all but the last bear the high bit -/
def enc (n : Nat) : List UInt8 := if n < 128 then [UInt8.ofNat n] else UInt8.ofNat (n % 128 + 128) :: enc (n / 128)
termination_by n
decreasing_by omega
theorem enc_small {n : Nat} (h : n < 128) : enc n = [UInt8.ofNat n] := by rw [enc, if_pos h]
theorem enc_large {n : Nat} (h : ¬ n < 128) : enc n = UInt8.ofNat (n % 128 + 128) :: enc (n / 128) := by rw [enc, if_neg h]
/-- a number of any int, laid: below 0 as 0, above 2^62 as 2^62 -/
def clampN (v : Int) : Nat := (min (max v 0) 4611686018427387904).toNat
def encAll (vs : List Int) : List UInt8 := vs.flatMap fun v => enc (clampN v)
def encRow (p : List UInt8) : List UInt8 := enc p.length ++ p
theorem enc_len_le (n : Nat) (k : Nat) (h : n < 128 ^ k) (hk : 0 < k) : (enc n).length ≤ k := by
  induction k generalizing n with
  | zero => omega
  | succ k ih =>
    by_cases hs : n < 128
    · rw [enc_small hs]; simp
    · rw [enc_large hs]
      have : 0 < k := by
        rcases Nat.eq_zero_or_pos k with rfl | h0
        · simp at h; omega
        · exact h0
      have := ih (n / 128) (by rw [Nat.pow_succ] at h; omega) this
      simp; omega
theorem enc_len (n : Nat) (h : n ≤ 4611686018427387904) : (enc n).length ≤ 9 := enc_len_le n 9 (by omega) (by omega)
theorem clampN_le (v : Int) : clampN v ≤ 4611686018427387904 := by unfold clampN; omega
theorem encAll_len (vs : List Int) : (encAll vs).length ≤ 9 * vs.length := by
  induction vs with
  | nil => simp [encAll]
  | cons v vs ih =>
    have := enc_len _ (clampN_le v)
    simp only [encAll, List.flatMap_cons, List.length_append, List.length_cons] at *
    omega
theorem encAll_snoc (vs : List Int) (v : Int) : encAll (vs ++ [v]) = encAll vs ++ enc (clampN v) := by simp [encAll]
theorem encAll_one (v : Int) : encAll [v] = enc (clampN v) := by simp [encAll]
theorem clampN_nat (n : Nat) (h : n ≤ 4611686018427387904) : clampN n = n := by unfold clampN; omega
end Go.Proofs.YteieielodooglaaGreat
