/- Words turned: bits.RotateLeft32, digest.right, the reference's r. -/
import Derived.Test.YtmijlojjkgeplaaSha
import Derived.Test.YtmijlojjkgeplaaProg
open Go Go.RowKit
namespace Go.Proofs.Ytmijlojjkgeplaa
theorem u64_neg_and31 (n : Nat) (h1 : 1 ≤ n) (h31 : n ≤ 31) : bits .and .u64 (IntKind.u64.wrap (-(n : Int))) 31 = ((32 - n : Nat) : Int) := by
  have h : ∀ n : Nat, n < 32 → 1 ≤ n → bits .and .u64 (IntKind.u64.wrap (-(n : Int))) 31 = ((32 - n : Nat) : Int) := by decide
  exact h n (by omega) h1
theorem u32_or_eq (a b x : Nat) (h : a ||| b = x) (ha : a < 4294967296) (hb : b < 4294967296) : bits .or .u32 (a : Int) (b : Int) = (x : Int) := by rw [← h]; exact u32_or_nat a b ha hb
theorem rot_calls (x n : Nat) (w : World) (hx : x < 4294967296) (h1 : 1 ≤ n) (h31 : n ≤ 31) :
    Calls Try.prog 163 #[.int .u32 x, .int .i64 (-(n : Int))] w fun e w' => e = .returned (.int .u32 (rotr n x : Nat)) ∧ w' = w := by
  have q1 := u64_neg_and31 n h1 h31
  have hb := (rotr_bits n x hx h1 h31).1
  obtain ⟨s, hs⟩ : ∃ s, s = 32 - n := ⟨_, rfl⟩
  rw [← hs] at q1 hb
  have hs1 : 1 ≤ s := by omega
  have hs2 : s ≤ 31 := by omega
  have hsn : n = 32 - s := by omega
  rw [show x / 2 ^ n = x / 2 ^ (32 - s) by rw [hsn]] at hb
  have q2 : Hid (bits .or .u32 ((x : Int) * 2 ^ s % 4294967296) ((x : Int) / 2 ^ (32 - s)) = (rotr n x : Nat)) := Lib.hid (by
    have h2 := u32_or_eq (x * 2 ^ s % 4294967296) (x / 2 ^ (32 - s)) _ hb (by omega) (by have := Nat.div_le_self x (2 ^ (32 - s)); omega)
    rw [← h2]
    simp)
  clear hb hs hsn
  go_enter Try.func163, Try.ntmps163
  go_wp2
  go_ret
  rw [q2.out]
  exact ⟨rfl, rfl⟩
theorem right_calls (x n : Nat) (w : World) (hx : x < 4294967296) (h1 : 1 ≤ n) (h31 : n ≤ 31) :
    Calls Try.prog 159 #[.int .u32 x, .int .i64 n] w fun e w' => e = .returned (.int .u32 (rotr n x : Nat)) ∧ w' = w := by
  go_enter Try.func159, Try.ntmps159
  go_wp2_with fail
  refine (rot_calls x n _ hx h1 h31).mono ?_
  rintro e w2 ⟨rfl, rfl⟩
  go_wp2
  go_ret
  exact ⟨rfl, rfl⟩
theorem right_any (x : Nat) (m : Int) (w : World) (h1 : 1 ≤ m) (h31 : m ≤ 31) (hx : x < 4294967296) :
    Calls Try.prog 159 #[.int .u32 x, .int .i64 m] w fun e w' => e = .returned (.int .u32 (rotr m.toNat x : Nat)) ∧ w' = w := by
  obtain ⟨n, rfl⟩ := Int.eq_ofNat_of_zero_le (show 0 ≤ m by omega)
  exact right_calls x n w hx (by omega) (by omega)
theorem refR_calls (x n : Nat) (w : World) (hx : x < 4294967296) (h1 : 1 ≤ n) (h31 : n ≤ 31) :
    Calls Try.prog 149 #[.int .u32 x, .int .u64 n] w fun e w' => e = .returned (.int .u32 (rotr n x : Nat)) ∧ w' = w := by
  have hb := (rotr_bits n x hx h1 h31).2
  have q2 : Hid (bits .or .u32 ((x : Int) / 2 ^ n) ((x : Int) * 2 ^ (32 - n) % 4294967296) = (rotr n x : Nat)) := Lib.hid (by
    have h2 := u32_or_eq (x / 2 ^ n) (x * 2 ^ (32 - n) % 4294967296) _ hb (by have := Nat.div_le_self x (2 ^ n); omega) (by omega)
    rw [← h2]
    simp)
  clear hb
  go_enter Try.func149, Try.ntmps149
  go_wp2
  go_ret
  rw [q2.out]
  exact ⟨rfl, rfl⟩
theorem refR_any (x : Nat) (m : Int) (w : World) (h1 : 1 ≤ m) (h31 : m ≤ 31) (hx : x < 4294967296) :
    Calls Try.prog 149 #[.int .u32 x, .int .u64 m] w fun e w' => e = .returned (.int .u32 (rotr m.toNat x : Nat)) ∧ w' = w := by
  obtain ⟨n, rfl⟩ := Int.eq_ofNat_of_zero_le (show 0 ≤ m by omega)
  exact refR_calls x n w hx (by omega) (by omega)
end Go.Proofs.Ytmijlojjkgeplaa
