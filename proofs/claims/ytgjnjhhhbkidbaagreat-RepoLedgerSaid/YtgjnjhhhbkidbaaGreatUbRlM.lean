/- RlM -/
import Derived.Test.YtgjnjhhhbkidbaaGreatUbRlC
open Go Go.RowKit
namespace Go.Proofs.YtgjnjhhhbkidbaaGreat
theorem bytesLess_tot : ∀ a b : List UInt8, Op.bytesLess a b = false → a = b ∨ Op.bytesLess b a = true
  | [], [], _ => .inl rfl
  | [], _ :: _, h => by simp [Op.bytesLess] at h
  | _ :: _, [], _ => .inr rfl
  | a :: x, b :: y, h => by
    rw [Op.bytesLess, Bool.or_eq_false_iff] at h
    rw [Op.bytesLess, Bool.or_eq_true]
    have h1 : ¬ a < b := by simpa using h.1
    by_cases e : a = b
    · subst e
      have h2 : Op.bytesLess x y = false := by simpa using h.2
      rcases bytesLess_tot x y h2 with h3 | h3
      · exact .inl (by rw [h3])
      · exact .inr (.inr (by simp [h3]))
    · right
      left
      have h2 : a.toNat ≠ b.toNat := fun h => e (UInt8.toNat_inj.1 h)
      have h3 : ¬ a.toNat < b.toNat := fun h => h1 (UInt8.lt_iff_toNat_lt.2 h)
      exact decide_eq_true (UInt8.lt_iff_toNat_lt.2 (by omega))
theorem tgLt_tot (a b : TargetR) (h : tgLt a b = false) : tgSame a b ∨ tgLt b a = true := by
  unfold tgLt at *
  rw [Bool.or_eq_false_iff] at h
  rcases bytesLess_tot _ _ h.1 with h1 | h1
  · have h2 : Op.bytesLess a.ecu b.ecu = false := by simpa [h1] using h.2
    rcases bytesLess_tot _ _ h2 with h3 | h3
    · exact .inl ⟨h1, h3⟩
    · exact .inr (by simp [h1, h3])
  · exact .inr (by simp [h1])
theorem tgLt_congL {a b : TargetR} (h : tgSame a b) (c : TargetR) : tgLt a c = tgLt b c := by unfold tgLt; rw [h.1, h.2]
theorem tgLt_congR {a b : TargetR} (h : tgSame a b) (c : TargetR) : tgLt c a = tgLt c b := by unfold tgLt; rw [h.1, h.2]
theorem key_same (t : TargetR) : tgSame (keyT t.l t.ecu) t := ⟨rfl, rfl⟩
theorem inR_iff (T : List TargetR) (x : TargetR) (k : Nat) : inR T x k = true ↔ k < T.length ∧ tgSame (gt T k) x := by
  unfold inR tgSame
  simp only [Bool.and_eq_true, decide_eq_true_eq]
theorem inR_no {T : List TargetR} {x : TargetR} {k : Nat} (h : inR T x k = false) (hk : k < T.length) : ¬ tgSame (gt T k) x := fun h2 => by
  rw [(inR_iff T x k).2 ⟨hk, h2⟩] at h
  cases h
/-- behind its place all are above it -/
theorem plc_above {T : List TargetR} (h : RiseR T) {x : TargetR} {k : Nat} (hp : PlcR T x k) (hin : inR T x k = false) : ∀ i, k ≤ i → i < T.length → tgLt x (gt T i) = true := by
  intro i h1 h2
  have hk : k < T.length := by omega
  have h3 : tgLt x (gt T k) = true := by
    rcases tgLt_tot _ _ (hp.2.2 k (Nat.le_refl _) hk) with h4 | h4
    · exact absurd h4 (inR_no hin hk)
    · exact h4
  by_cases e : i = k
  · subst e; exact h3
  · exact tgLt_trans _ _ _ h3 (h k i (by omega) h2)
theorem plc_exists {T : List TargetR} (h : RiseR T) (x : TargetR) : ∃ k, PlcR T x k := by
  have key : ∀ n, n ≤ T.length → ∃ k, k ≤ n ∧ (∀ i, i < k → tgLt (gt T i) x = true) ∧ (∀ i, k ≤ i → i < n → tgLt (gt T i) x = false) := by
    intro n
    induction n with
    | zero => exact fun _ => ⟨0, Nat.le_refl _, fun i h => absurd h (Nat.not_lt_zero _), fun i _ h => absurd h (Nat.not_lt_zero _)⟩
    | succ n ih =>
      intro hn
      obtain ⟨k, h1, h2, h3⟩ := ih (by omega)
      by_cases hkn : k = n
      · subst hkn
        cases hb : tgLt (gt T k) x
        · refine ⟨k, by omega, h2, fun i q1 q2 => ?_⟩
          obtain rfl : i = k := by omega
          exact hb
        · refine ⟨k + 1, Nat.le_refl _, fun i q => ?_, fun i q1 q2 => by omega⟩
          by_cases e : i = k
          · subst e; exact hb
          · exact h2 i (by omega)
      · refine ⟨k, by omega, h2, fun i q1 q2 => ?_⟩
        by_cases e : i = n
        · subst e
          cases hb : tgLt (gt T i) x
          · rfl
          · have h4 := tgLt_trans _ _ _ (h k i (by omega) (by omega)) hb
            rw [h3 k (Nat.le_refl _) (by omega)] at h4
            exact absurd h4 (by decide)
        · exact h3 i q1 (by omega)
  obtain ⟨k, h1, h2, h3⟩ := key T.length (Nat.le_refl _)
  exact ⟨k, h1, h2, h3⟩
theorem plc_unique {T : List TargetR} {x : TargetR} {j k : Nat} (h1 : PlcR T x j) (h2 : PlcR T x k) : j = k := by
  rcases Nat.lt_trichotomy j k with h | h | h
  · have a := h2.2.1 j h
    rw [h1.2.2 j (Nat.le_refl _) (by have := h2.1; omega)] at a
    cases a
  · exact h
  · have a := h1.2.1 k h
    rw [h2.2.2 k (Nat.le_refl _) (by have := h1.1; omega)] at a
    cases a
theorem gt_get? (T : List TargetR) (i : Nat) : gt T i = (T[i]?).getD RowC.zero := by unfold gt; exact List.getD_eq_getElem?_getD ..
theorem gt_ins_lt {T : List TargetR} {k i : Nat} (t : TargetR) (hk : k ≤ T.length) (h : i < k) : gt (insT T k t) i = gt T i := by
  rw [gt_get?, gt_get?, insT, List.getElem?_append_left (by rw [List.length_take]; omega), List.getElem?_take, if_pos h]
theorem gt_ins_eq {T : List TargetR} {k : Nat} (t : TargetR) (hk : k ≤ T.length) : gt (insT T k t) k = t := by
  have hl : (T.take k).length = k := by rw [List.length_take]; omega
  rw [gt_get?, insT, List.getElem?_append_right (by rw [hl]; exact Nat.le_refl _), hl, Nat.sub_self]
  rfl
theorem gt_ins_gt {T : List TargetR} {k i : Nat} (t : TargetR) (hk : k ≤ T.length) (h : k ≤ i) : gt (insT T k t) (i + 1) = gt T i := by
  have hl : (T.take k).length = k := by rw [List.length_take]; omega
  rw [gt_get?, gt_get?, insT, List.getElem?_append_right (by rw [hl]; omega), hl, show i + 1 - k = (i - k) + 1 by omega, List.getElem?_cons_succ, List.getElem?_drop, show k + (i - k) = i by omega]
theorem insT_rise {T : List TargetR} (h : RiseR T) {t : TargetR} {k : Nat} (hp : PlcR T (keyT t.l t.ecu) k) (hin : inR T (keyT t.l t.ecu) k = false) : RiseR (insT T k t) := by
  have hk := hp.1
  have hab := plc_above h hp hin
  intro i j hij hj
  rw [ins_len _ _ _ hk] at hj
  have lo : ∀ i, i < k → tgLt (gt T i) t = true := fun i q => by rw [← tgLt_congR (key_same t)]; exact hp.2.1 i q
  have hi : ∀ i, k ≤ i → i < T.length → tgLt t (gt T i) = true := fun i q1 q2 => by rw [← tgLt_congL (key_same t)]; exact hab i q1 q2
  rcases Nat.lt_trichotomy j k with c | c | c
  · rw [gt_ins_lt t hk (by omega), gt_ins_lt t hk c]
    exact h i j hij (by omega)
  · subst c
    rw [gt_ins_lt t hk hij, gt_ins_eq t hk]
    exact lo i hij
  · obtain ⟨j, rfl⟩ : ∃ q, j = q + 1 := ⟨j - 1, by omega⟩
    rw [gt_ins_gt t hk (by omega)]
    rcases Nat.lt_trichotomy i k with c2 | c2 | c2
    · rw [gt_ins_lt t hk c2]
      exact h i j (by omega) (by omega)
    · subst c2
      rw [gt_ins_eq t hk]
      exact hi j (by omega) (by omega)
    · obtain ⟨i, rfl⟩ : ∃ q, i = q + 1 := ⟨i - 1, by omega⟩
      rw [gt_ins_gt t hk (by omega)]
      exact h i j (by omega) (by omega)
theorem gt_set_eq {T : List TargetR} {k : Nat} (t : TargetR) (hk : k < T.length) : gt (T.set k t) k = t := by
  rw [gt_get?, List.getElem?_set, if_pos rfl, if_pos hk]
  rfl
theorem gt_set_ne {T : List TargetR} {k i : Nat} (t : TargetR) (h : ¬ i = k) : gt (T.set k t) i = gt T i := by
  rw [gt_get?, gt_get?, List.getElem?_set, if_neg (fun e => h e.symm)]
theorem setT_rise {T : List TargetR} (h : RiseR T) {t : TargetR} {k : Nat} (hk : k < T.length) (hs : tgSame (gt T k) t) : RiseR (T.set k t) := by
  intro i j hij hj
  rw [List.length_set] at hj
  by_cases e1 : i = k
  · subst e1
    rw [gt_set_eq t hk, gt_set_ne t (by omega), ← tgLt_congL hs]
    exact h i j hij hj
  · rw [gt_set_ne t e1]
    by_cases e2 : j = k
    · subst e2
      rw [gt_set_eq t hk, ← tgLt_congR hs]
      exact h i j hij hj
    · rw [gt_set_ne t e2]
      exact h i j hij hj
theorem del_len {T : List TargetR} {k : Nat} (hk : k < T.length) : (delT T k).length + 1 = T.length := by
  unfold delT
  rw [List.length_append, List.length_take, List.length_drop]
  omega
theorem gt_del {T : List TargetR} {k : Nat} (hk : k < T.length) (i : Nat) : gt (delT T k) i = if i < k then gt T i else gt T (i + 1) := by
  have hl : (T.take k).length = k := by rw [List.length_take]; omega
  split
  · rename_i h
    rw [gt_get?, gt_get?, delT, List.getElem?_append_left (by rw [hl]; exact h), List.getElem?_take, if_pos h]
  · rename_i h
    rw [gt_get?, gt_get?, delT, List.getElem?_append_right (by rw [hl]; omega), hl, List.getElem?_drop, show k + 1 + (i - k) = i + 1 by omega]
theorem delT_rise {T : List TargetR} (h : RiseR T) {k : Nat} (hk : k < T.length) : RiseR (delT T k) := by
  intro i j hij hj
  have hl := del_len hk
  rw [gt_del hk, gt_del hk]
  split <;> split <;> exact h _ _ (by omega) (by omega)
theorem riseT_of {T : List TargetR} (h : RiseR T) : ∀ n, n ≤ T.length → riseT T n = true
  | 0, _ => rfl
  | n + 1, hn => by
    rw [riseT, riseT_of h n (by omega), Bool.true_and]
    by_cases e : n = 0
    · simp [e]
    · rw [h (n - 1) n (by omega) (by omega)]
      simp
theorem mayR_ok {t : TargetR} (h : mayR t = true) : tgOk t = true := by
  unfold mayR tgsOk at h
  simp only [Bool.and_eq_true, List.all_cons] at h
  exact h.1.1.1.1.2.1
theorem tgsOk_of {T : List TargetR} {v x : Int} (h : RiseR T) (h1 : ∀ t ∈ T, mayR t = true) (h2 : T.length ≤ 16) (h3 : verB v = true) (h4 : numB x = true) : tgsOk mayL v x T [] = true := by
  unfold tgsOk
  rw [h3, h4, riseT_of h _ (Nat.le_refl _), decide_eq_true h2, List.all_eq_true.2 (fun t ht => mayR_ok (h1 t ht))]
  rfl
end Go.Proofs.YtgjnjhhhbkidbaaGreat
