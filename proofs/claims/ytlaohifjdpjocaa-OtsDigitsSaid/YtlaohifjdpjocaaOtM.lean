/- Digits: what the last ones are; no message's digits are all above another one's. -/
import Derived.Test.YtlaohifjdpjocaaOtK
open Go Go.RowKit
namespace Go.Proofs.Ytlaohifjdpjocaa
theorem iget_app1 (l m : List Int) (i : Nat) (h : i < l.length) : iget (l ++ m) i = iget l i := by
  simp [iget, List.getD_eq_getElem?_getD, List.getElem?_append_left h]
theorem iget_app2 (l m : List Int) (i : Nat) (h : l.length ≤ i) : iget (l ++ m) i = iget m (i - l.length) := by
  simp [iget, List.getD_eq_getElem?_getD, List.getElem?_append_right h]
theorem iget_map (f : Nat → Int) (k i : Nat) (hi : i < k) : iget ((List.range k).map f) i = f i := by
  simp [iget, List.getD_eq_getElem?_getD, hi]
theorem iget_digs (h : H32) (k i : Nat) (hi : i < k) : iget (digs h k) i = digI (bget h.l (i / 4)) i := iget_map _ k i hi
theorem lastD_get (q : Int) : ∀ n j, j < n → iget (lastD n q) j = q / 4 ^ j % 4
  | 0, j, h => by omega
  | n + 1, j, h => by
    rw [lastD]
    by_cases hj : j < n
    · rw [iget_app1 _ _ _ (by rw [lastD_len]; exact hj), lastD_get q n j hj]
    · rw [iget_app2 _ _ _ (by rw [lastD_len]; omega), lastD_len, show j - n = 0 by omega, show j = n by omega]
      rfl
theorem dS_first (m : List UInt8) (i : Nat) (h : i < 32) : iget (digitsS m) i = digI (bget (shaH m).l (i / 4)) i := by
  rw [digitsS, iget_app1 _ _ _ (by rw [digs_len]; exact h), iget_digs _ _ _ h]
theorem dS_last (m : List UInt8) (j : Nat) (h : j < 4) : iget (digitsS m) (32 + j) = left (shaH m) 32 / 4 ^ j % 4 := by
  rw [digitsS, iget_app2 _ _ _ (by rw [digs_len]; omega), digs_len, show 32 + j - 32 = j by omega, lastD_get _ _ _ h]
theorem abs_sum (d : Nat → Int) (q : Int) (h0 : 0 ≤ q) (h1 : q ≤ 96) (hd : ∀ j, j < 4 → d (32 + j) = q / 4 ^ j % 4) : d 32 + 4 * d 33 + 16 * d 34 + 64 * d 35 = q := by
  have e0 := hd 0 (by decide)
  have e1 := hd 1 (by decide)
  have e2 := hd 2 (by decide)
  have e3 := hd 3 (by decide)
  simp only [Nat.add_zero, Nat.reduceAdd] at e0 e1 e2 e3
  rw [e0, e1, e2, e3]
  simp only [Int.pow_zero, Int.ediv_one]
  omega
theorem dS_sum (m : List UInt8) : iget (digitsS m) 32 + 4 * iget (digitsS m) 33 + 16 * iget (digitsS m) 34 + 64 * iget (digitsS m) 35 = left (shaH m) 32 :=
  abs_sum (fun i => iget (digitsS m) i) _ (left_in (shaH m) 32).1 (left_in (shaH m) 32).2 (fun j hj => dS_last m j hj)
theorem abs_more (dx dy lx ly : Nat → Int) (hx0 : lx 0 = 0) (hy0 : ly 0 = 0) (hx : ∀ k, k < 32 → lx (k + 1) = lx k + (3 - dx k)) (hy : ∀ k, k < 32 → ly (k + 1) = ly k + (3 - dy k))
    (bx : 0 ≤ lx 32 ∧ lx 32 ≤ 96) (b_y : 0 ≤ ly 32 ∧ ly 32 ≤ 96) (ex : ∀ j, j < 4 → dx (32 + j) = lx 32 / 4 ^ j % 4) (ey : ∀ j, j < 4 → dy (32 + j) = ly 32 / 4 ^ j % 4)
    (h : ∀ i, i < 36 → dy i ≤ dx i) : ∀ i, i < 36 → dy i = dx i := by
  have key : ∀ k, k ≤ 32 → lx k ≤ ly k ∧ (lx k = ly k → ∀ i, i < k → dy i = dx i) := by
    intro k
    induction k with
    | zero => exact fun _ => ⟨by omega, fun _ i hi => by omega⟩
    | succ k ih =>
      intro hk32
      obtain ⟨i1, i2⟩ := ih (by omega)
      have hk := h k (by omega)
      have h1 := hx k (by omega)
      have h2 := hy k (by omega)
      refine ⟨by omega, fun e i hi => ?_⟩
      by_cases hik : i = k
      · subst hik; omega
      · exact i2 (by omega) i (by omega)
  obtain ⟨l1, l2⟩ := key 32 (Nat.le_refl _)
  have sa := abs_sum dx _ bx.1 bx.2 ex
  have sb := abs_sum dy _ b_y.1 b_y.2 ey
  have e0 := h 32 (by decide)
  have e1 := h 33 (by decide)
  have e2 := h 34 (by decide)
  have e3 := h 35 (by decide)
  have hle : lx 32 = ly 32 := by omega
  intro i hi
  by_cases hi32 : i < 32
  · exact l2 hle i hi32
  · have h1 := ex (i - 32) (by omega)
    have h2 := ey (i - 32) (by omega)
    rw [show 32 + (i - 32) = i by omega] at h1 h2
    rw [h1, h2, hle]
/-- if no chain of one is walked less far, none is walked further -/
theorem no_more (a b : List UInt8) (h : ∀ i, i < 36 → iget (digitsS b) i ≤ iget (digitsS a) i) : ∀ i, i < 36 → iget (digitsS b) i = iget (digitsS a) i :=
  abs_more (fun i => iget (digitsS a) i) (fun i => iget (digitsS b) i) (left (shaH a)) (left (shaH b)) rfl rfl (fun k hk => by rw [left, dS_first _ _ hk]) (fun k hk => by rw [left, dS_first _ _ hk])
    (left_in _ 32) (left_in _ 32) (fun j hj => dS_last a j hj) (fun j hj => dS_last b j hj) h
def lessB (x y : List Int) : Nat → Bool
  | 0 => false
  | k + 1 => lessB x y k || decide (iget x k < iget y k)
theorem lessB_iff (x y : List Int) : ∀ k, lessB x y k = true ↔ ∃ i, i < k ∧ iget x i < iget y i
  | 0 => by simp [lessB]
  | k + 1 => by
    rw [lessB, Bool.or_eq_true, lessB_iff x y k, decide_eq_true_eq]
    constructor
    · rintro (⟨i, h1, h2⟩ | h)
      · exact ⟨i, by omega, h2⟩
      · exact ⟨k, by omega, h⟩
    · rintro ⟨i, h1, h2⟩
      by_cases hik : i = k
      · subst hik; exact .inr h2
      · exact .inl ⟨i, by omega, h2⟩
theorem abs_less (dx dy : Nat → Int) (n : Nat) (hno : (∀ i, i < n → dx i ≤ dy i) → ∀ i, i < n → dx i = dy i) (h : ∃ i, i < n ∧ dx i < dy i) : ∃ i, i < n ∧ dy i < dx i := by
  obtain ⟨i, h1, h2⟩ := h
  apply Classical.byContradiction
  intro hn
  have := hno (fun j hj => by
    rcases (show dy j < dx j ∨ dx j ≤ dy j by omega) with h | h
    · exact absurd ⟨j, hj, h⟩ hn
    · exact h) i h1
  omega
theorem less_more (a b : List UInt8) : lessB (digitsS a) (digitsS b) 36 = lessB (digitsS b) (digitsS a) 36 := by
  rw [Bool.eq_iff_iff, lessB_iff, lessB_iff]
  exact ⟨abs_less _ _ 36 (no_more b a), abs_less _ _ 36 (no_more a b)⟩
end Go.Proofs.Ytlaohifjdpjocaa
