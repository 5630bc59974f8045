/- The way up of a full tree leads to its root: the mathematics. -/
import Derived.Test.YtmijlojjkgeplaaMkD
open Go Go.RowKit
namespace Go.Proofs.Ytmijlojjkgeplaa
theorem upL_snoc (o : H32) : ∀ (p : List H32) (h : H32) (i : Nat), upL h i (p ++ [o]) = if (i / 2 ^ p.length) % 2 = 0 then nodeH (upL h i p) o else nodeH o (upL h i p)
  | [], h, i => by simp [upL]
  | x :: p, h, i => by
    rw [List.cons_append, upL, upL_snoc o p, upL, List.length_cons, Nat.pow_succ, Nat.mul_comm, Nat.div_div_eq_div_mul]
theorem upL_mod : ∀ (p : List H32) (h : H32) (i k : Nat), upL h (i + 2 ^ p.length * k) p = upL h i p
  | [], h, i, k => by simp [upL]
  | x :: p, h, i, k => by
    have e1 : (i + 2 ^ (x :: p).length * k) % 2 = i % 2 := by rw [List.length_cons, Nat.pow_succ, Nat.mul_comm (2 ^ p.length) 2, Nat.mul_assoc]; omega
    have e2 : (i + 2 ^ (x :: p).length * k) / 2 = i / 2 + 2 ^ p.length * k := by rw [List.length_cons, Nat.pow_succ, Nat.mul_comm (2 ^ p.length) 2, Nat.mul_assoc]; omega
    rw [upL, e1, e2, upL_mod p, upL]
theorem half_pow (h : Nat) : halfN (2 ^ (h + 1)) = 2 ^ h := by
  have h1 : 1 ≤ 2 ^ h := Nat.one_le_two_pow
  exact (halfN_of (2 ^ (h + 1)) h (by rw [Nat.pow_succ]; omega) (by rw [Nat.pow_succ]; omega)).symm
theorem hget_take (l : List H32) (k i : Nat) (h : i < k) : hget (l.take k) i = hget l i := by simp [hget, List.getD_eq_getElem?_getD, h]
theorem hget_drop (l : List H32) (k i : Nat) : hget (l.drop k) i = hget l (k + i) := by simp [hget, List.getD_eq_getElem?_getD]
theorem up_root : ∀ (h : Nat) (l : List H32) (i : Nat), l.length = 2 ^ h → i < l.length → (pathL l i).length = h ∧ upL (hget l i) i (pathL l i) = rootL l
  | 0, l, i, hl, hi => by
    rw [pathL_small l i (by rw [hl]; decide)]
    obtain ⟨x, rfl⟩ := List.length_eq_one_iff.1 (hl.trans (by decide))
    have : i = 0 := by simpa using hi
    subst this
    exact ⟨rfl, rfl⟩
  | h + 1, l, i, hl, hi => by
    have h1 : 1 ≤ 2 ^ h := Nat.one_le_two_pow
    have hp : 2 ^ (h + 1) = 2 ^ h + 2 ^ h := by rw [Nat.pow_succ]; omega
    have h2 : 2 ≤ l.length := by omega
    have hh : halfN l.length = 2 ^ h := by rw [hl, half_pow]
    have hr := rootL_two l h2
    rw [hh] at hr
    by_cases hlo : i < 2 ^ h
    · obtain ⟨i1, i2⟩ := up_root h (l.take (2 ^ h)) i (by rw [List.length_take]; omega) (by rw [List.length_take]; omega)
      rw [hget_take _ _ _ hlo] at i2
      rw [pathL_lo l i h2 (by rw [hh]; exact hlo), hh, upL_snoc, i1, i2, Nat.div_eq_of_lt hlo, if_pos (by decide), hr]
      exact ⟨by rw [List.length_append, i1]; rfl, rfl⟩
    · obtain ⟨i1, i2⟩ := up_root h (l.drop (2 ^ h)) (i - 2 ^ h) (by rw [List.length_drop]; omega) (by rw [List.length_drop]; omega)
      rw [hget_drop, show 2 ^ h + (i - 2 ^ h) = i by omega] at i2
      have hm := upL_mod (pathL (l.drop (2 ^ h)) (i - 2 ^ h)) (hget l i) (i - 2 ^ h) 1
      rw [i1, Nat.mul_one, show i - 2 ^ h + 2 ^ h = i by omega] at hm
      have hd : i / 2 ^ h = 1 := (Nat.div_eq_iff (by omega)).2 (by omega)
      rw [pathL_hi l i h2 (by rw [hh]; exact hlo), hh, upL_snoc, i1, hm, i2, hd, if_neg (by decide), hr]
      exact ⟨by rw [List.length_append, i1]; rfl, rfl⟩
end Go.Proofs.Ytmijlojjkgeplaa
