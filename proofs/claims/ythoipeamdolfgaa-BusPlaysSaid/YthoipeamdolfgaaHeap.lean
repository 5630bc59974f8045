/- A heap, in mathematics: what container/heap does to a list. -/
import Derived.Test.YthoipeamdolfgaaMem
namespace Go.Proofs.Ythoipeamdolfgaa.Hp
variable {α : Type}
def gd (z : α) (l : List α) (k : Nat) : α := l.getD k z
def swp (z : α) (l : List α) (i j : Nat) : List α := (l.set i (gd z l j)).set j (gd z l i)
theorem gd_get (z : α) (l : List α) (k : Nat) (h : k < l.length) : gd z l k = l[k] := by simp [gd, h]
theorem swp_len (z : α) (l : List α) (i j : Nat) : (swp z l i j).length = l.length := by simp [swp]
theorem gd_set (z : α) (l : List α) (i : Nat) (x : α) (k : Nat) (h : i < l.length) : gd z (l.set i x) k = if k = i then x else gd z l k := by
  unfold gd
  by_cases e : k = i
  · subst e; simp [h]
  · simp only [List.getD_eq_getElem?_getD, if_neg e]
    rw [List.getElem?_set_ne (fun h => e h.symm)]
theorem gd_swp (z : α) (l : List α) {i j : Nat} (hi : i < l.length) (hj : j < l.length) (k : Nat) : gd z (swp z l i j) k = if k = j then gd z l i else if k = i then gd z l j else gd z l k := by
  unfold swp
  rw [gd_set _ _ _ _ _ (by simpa using hj), gd_set _ _ _ _ _ hi]
theorem swp_perm (z : α) (l : List α) {i j : Nat} (hi : i < l.length) (hj : j < l.length) : (swp z l i j).Perm l := by
  unfold swp
  rw [gd_get z l j hj, gd_get z l i hi]
  exact List.set_set_perm hi hj
/-- what an order is asked for -/
structure Ord (lt : α → α → Bool) : Prop where
  tr : ∀ a b c, lt b a = false → lt c b = false → lt c a = false
  asy : ∀ a b, lt a b = true → lt b a = false
theorem Ord.ir {lt : α → α → Bool} (o : Ord lt) (a : α) : lt a a = false := by
  cases h : lt a a with
  | false => rfl
  | true =>
    have h2 := o.asy a a h
    rw [h] at h2
    exact h2
/-- the first n of l are a heap -/
def IsHeap (z : α) (lt : α → α → Bool) (l : List α) (n : Nat) : Prop := ∀ k, 0 < k → k < n → lt (gd z l k) (gd z l ((k - 1) / 2)) = false
def upL (z : α) (lt : α → α → Bool) : Nat → List α → Nat → List α
  | 0, l, _ => l
  | f + 1, l, j => if j = 0 then l else if lt (gd z l j) (gd z l ((j - 1) / 2)) then upL z lt f (swp z l ((j - 1) / 2) j) ((j - 1) / 2) else l
def child (z : α) (lt : α → α → Bool) (l : List α) (i n : Nat) : Nat := if 2 * i + 2 < n then (if lt (gd z l (2 * i + 2)) (gd z l (2 * i + 1)) then 2 * i + 2 else 2 * i + 1) else 2 * i + 1
def downL (z : α) (lt : α → α → Bool) : Nat → List α → Nat → Nat → List α
  | 0, l, _, _ => l
  | f + 1, l, i, n => if 2 * i + 1 < n then (if lt (gd z l (child z lt l i n)) (gd z l i) then downL z lt f (swp z l i (child z lt l i n)) (child z lt l i n) n else l) else l
theorem upL_len (z : α) (lt : α → α → Bool) : ∀ f l j, (upL z lt f l j).length = l.length
  | 0, _, _ => rfl
  | f + 1, l, j => by
    unfold upL
    split
    · rfl
    · split
      · rw [upL_len, swp_len]
      · rfl
theorem downL_len (z : α) (lt : α → α → Bool) : ∀ f l i n, (downL z lt f l i n).length = l.length
  | 0, _, _, _ => rfl
  | f + 1, l, i, n => by
    unfold downL
    split
    · split
      · rw [downL_len, swp_len]
      · rfl
    · rfl
theorem upL_perm (z : α) (lt : α → α → Bool) : ∀ f l j, j < l.length → (upL z lt f l j).Perm l
  | 0, _, _, _ => .refl _
  | f + 1, l, j, hj => by
    unfold upL
    split
    · exact .refl _
    · split
      · exact (upL_perm z lt f _ _ (by rw [swp_len]; omega)).trans (swp_perm z l (by omega) hj)
      · exact .refl _
theorem child_lt (z : α) (lt : α → α → Bool) (l : List α) {i n : Nat} (h : 2 * i + 1 < n) : child z lt l i n < n := by
  unfold child
  split
  · split <;> omega
  · exact h
theorem child_gt (z : α) (lt : α → α → Bool) (l : List α) (i n : Nat) : i < child z lt l i n := by
  unfold child
  split
  · split <;> omega
  · omega
theorem child_par (z : α) (lt : α → α → Bool) (l : List α) (i n : Nat) : (child z lt l i n - 1) / 2 = i := by
  unfold child
  split
  · split <;> omega
  · omega
/-- whichever of its own stands below -/
theorem child_min (z : α) {lt : α → α → Bool} (o : Ord lt) (l : List α) {i n k : Nat} (hk : k < n) (h0 : 0 < k) (hp : (k - 1) / 2 = i) : lt (gd z l k) (gd z l (child z lt l i n)) = false := by
  have hk2 : k = 2 * i + 1 ∨ k = 2 * i + 2 := by omega
  unfold child
  by_cases h2 : 2 * i + 2 < n
  · rw [if_pos h2]
    cases hl : lt (gd z l (2 * i + 2)) (gd z l (2 * i + 1)) with
    | true =>
      rw [if_pos rfl]
      rcases hk2 with rfl | rfl
      · exact o.asy _ _ hl
      · exact o.ir _
    | false =>
      rw [if_neg (by simp)]
      rcases hk2 with rfl | rfl
      · exact o.ir _
      · exact hl
  · rw [if_neg h2]
    rcases hk2 with rfl | rfl
    · exact o.ir _
    · omega
theorem downL_perm (z : α) (lt : α → α → Bool) : ∀ f l i n, n ≤ l.length → i < l.length → (downL z lt f l i n).Perm l
  | 0, _, _, _, _, _ => .refl _
  | f + 1, l, i, n, hn, hi => by
    unfold downL
    split
    · rename_i h
      split
      · have := child_lt z lt l h
        exact (downL_perm z lt f _ _ n (by rw [swp_len]; exact hn) (by rw [swp_len]; omega)).trans (swp_perm z l hi (by omega))
      · exact .refl _
    · exact .refl _
/-- what lies at or behind n stays -/
theorem downL_rest (z : α) (lt : α → α → Bool) : ∀ f l i n k, n ≤ l.length → i < n → n ≤ k → gd z (downL z lt f l i n) k = gd z l k
  | 0, _, _, _, _, _, _, _ => rfl
  | f + 1, l, i, n, k, hn, hi, hk => by
    unfold downL
    split
    · rename_i h
      split
      · have := child_lt z lt l h
        rw [downL_rest z lt f _ _ n k (by rw [swp_len]; exact hn) this hk, gd_swp z l (by omega) (by omega), if_neg (by omega), if_neg (by omega)]
      · rfl
    · rfl
theorem upL_heap (z : α) {lt : α → α → Bool} (o : Ord lt) : ∀ f l j, j < l.length → j ≤ f →
    (∀ k, 0 < k → k < l.length → k ≠ j → lt (gd z l k) (gd z l ((k - 1) / 2)) = false) →
    (∀ k, 0 < k → k < l.length → (k - 1) / 2 = j → 0 < j → lt (gd z l k) (gd z l ((j - 1) / 2)) = false) → IsHeap z lt (upL z lt f l j) l.length
  | 0, l, j, hj, hf, h1, _ => fun k h0 hk => h1 k h0 hk (by omega)
  | f + 1, l, j, hj, hf, h1, h2 => by
    unfold upL
    by_cases j0 : j = 0
    · rw [if_pos j0]
      exact fun k h0 hk => h1 k h0 hk (by omega)
    · rw [if_neg j0]
      cases hlt : lt (gd z l j) (gd z l ((j - 1) / 2)) with
      | false =>
        rw [if_neg (by simp)]
        intro k h0 hk
        by_cases e : k = j
        · subst e; exact hlt
        · exact h1 k h0 hk e
      | true =>
        rw [if_pos rfl]
        have hp : (j - 1) / 2 < l.length := by omega
        have hpj : (j - 1) / 2 < j := by omega
        have key := upL_heap z o f (swp z l ((j - 1) / 2) j) ((j - 1) / 2) (by rw [swp_len]; exact hp) (by omega)
        rw [swp_len] at key
        refine key ?_ ?_
        · intro k h0 hk hkp
          rw [gd_swp z l hp hj, gd_swp z l hp hj]
          by_cases e : k = j
          · subst e
            rw [if_pos rfl, if_neg (by omega), if_pos rfl]
            exact o.asy _ _ hlt
          · rw [if_neg e, if_neg hkp]
            by_cases e2 : (k - 1) / 2 = j
            · rw [if_pos e2]
              exact h2 k h0 hk e2 (by omega)
            · rw [if_neg e2]
              by_cases e3 : (k - 1) / 2 = (j - 1) / 2
              · rw [if_pos e3]
                have h3 := h1 k h0 hk e
                rw [e3] at h3
                exact o.tr _ _ _ (o.asy _ _ hlt) h3
              · rw [if_neg e3]
                exact h1 k h0 hk e
        · intro k h0 hk hkp hpp
          have hgp := h1 ((j - 1) / 2) hpp hp (by omega)
          rw [gd_swp z l hp hj, gd_swp z l hp hj]
          rw [if_neg (show ¬ ((j - 1) / 2 - 1) / 2 = j by omega), if_neg (show ¬ ((j - 1) / 2 - 1) / 2 = (j - 1) / 2 by omega)]
          by_cases e : k = j
          · rw [if_pos e]
            exact hgp
          · rw [if_neg e, if_neg (by omega)]
            have h3 := h1 k h0 hk e
            rw [hkp] at h3
            exact o.tr _ _ _ hgp h3
theorem downL_heap (z : α) {lt : α → α → Bool} (o : Ord lt) : ∀ f l i n, n ≤ l.length → i < n → n ≤ i + f →
    (∀ k, 0 < k → k < n → (k - 1) / 2 ≠ i → lt (gd z l k) (gd z l ((k - 1) / 2)) = false) →
    (∀ k, 0 < k → k < n → (k - 1) / 2 = i → 0 < i → lt (gd z l k) (gd z l ((i - 1) / 2)) = false) → IsHeap z lt (downL z lt f l i n) n
  | 0, l, i, n, hn, hi, hf, h1, _ => by omega
  | f + 1, l, i, n, hn, hi, hf, h1, h2 => by
    unfold downL
    by_cases hc : 2 * i + 1 < n
    · rw [if_pos hc]
      have c1 := child_lt z lt l hc
      have c2 := child_gt z lt l i n
      have c3 := child_par z lt l i n
      have c4 := fun k hk h0 hp => child_min z o l (i := i) (n := n) (k := k) hk h0 hp
      generalize child z lt l i n = c at c1 c2 c3 c4 ⊢
      cases hlt : lt (gd z l c) (gd z l i) with
      | false =>
        rw [if_neg (by simp)]
        intro k h0 hk
        by_cases e : (k - 1) / 2 = i
        · rw [e]
          exact o.tr _ _ _ hlt (c4 k hk h0 e)
        · exact h1 k h0 hk e
      | true =>
        rw [if_pos rfl]
        refine downL_heap z o f (swp z l i c) c n (by rw [swp_len]; exact hn) c1 (by omega) ?_ ?_
        · intro k h0 hk hkp
          rw [gd_swp z l (by omega) (by omega), gd_swp z l (by omega) (by omega)]
          rw [if_neg hkp]
          by_cases e : k = c
          · subst e
            rw [if_pos rfl, if_pos c3]
            exact o.asy _ _ hlt
          · rw [if_neg e]
            by_cases e2 : (k - 1) / 2 = i
            · rw [if_neg (by omega), if_pos e2]
              exact c4 k hk h0 e2
            · rw [if_neg e2]
              by_cases e3 : k = i
              · rw [if_pos e3]
                subst e3
                exact h2 c (by omega) c1 c3 (by omega)
              · rw [if_neg e3]
                exact h1 k h0 hk e2
        · intro k h0 hk hkp hc0
          rw [gd_swp z l (by omega) (by omega), gd_swp z l (by omega) (by omega)]
          rw [if_neg (show ¬ k = c by omega), if_neg (show ¬ k = i by omega), c3, if_neg (show ¬ i = c by omega), if_pos rfl]
          have h3 := h1 k h0 hk (by omega)
          rw [hkp] at h3
          exact h3
    · rw [if_neg hc]
      intro k h0 hk
      exact h1 k h0 hk (by omega)
/-- the first of a heap is its least -/
theorem heap_min (z : α) {lt : α → α → Bool} (o : Ord lt) {l : List α} {n : Nat} (h : IsHeap z lt l n) : ∀ m k, k ≤ m → k < n → lt (gd z l k) (gd z l 0) = false
  | 0, k, hm, hk => by
    obtain rfl : k = 0 := by omega
    exact o.ir _
  | m + 1, k, hm, hk => by
    by_cases k0 : k = 0
    · subst k0; exact o.ir _
    · exact o.tr _ _ _ (heap_min z o h m ((k - 1) / 2) (by omega) (by omega)) (h k (by omega) hk)
/-- a new one behind all -/
def pushL (z : α) (lt : α → α → Bool) (l : List α) (x : α) : List α := upL z lt l.length (l ++ [x]) l.length
/-- the first goes to the end, and what stands in its place goes down -/
def popL (z : α) (lt : α → α → Bool) (l : List α) (n : Nat) : List α := downL z lt n (swp z l 0 n) 0 n
theorem pushL_len (z : α) (lt : α → α → Bool) (l : List α) (x : α) : (pushL z lt l x).length = l.length + 1 := by
  unfold pushL
  rw [upL_len]
  simp
theorem gd_snoc (z : α) (l : List α) (x : α) (k : Nat) (h : k < l.length) : gd z (l ++ [x]) k = gd z l k := by
  unfold gd
  simp only [List.getD_eq_getElem?_getD]
  rw [List.getElem?_append_left h]
theorem pushL_perm (z : α) (lt : α → α → Bool) (l : List α) (x : α) : (pushL z lt l x).Perm (x :: l) :=
  (upL_perm z lt _ _ _ (by simp)).trans List.perm_append_comm
theorem pushL_heap (z : α) {lt : α → α → Bool} (o : Ord lt) (l : List α) (x : α) (h : IsHeap z lt l l.length) : IsHeap z lt (pushL z lt l x) (l.length + 1) := by
  have key := upL_heap z o l.length (l ++ [x]) l.length (by simp) (Nat.le_refl _)
  simp only [List.length_append, List.length_cons, List.length_nil, Nat.zero_add] at key
  refine key ?_ ?_
  · intro k h0 hk hne
    rw [gd_snoc z l x k (by omega), gd_snoc z l x _ (by omega)]
    exact h k h0 (by omega)
  · intro k h0 hk hp hl
    omega
theorem popL_len (z : α) (lt : α → α → Bool) (l : List α) (n : Nat) : (popL z lt l n).length = l.length := by
  unfold popL
  rw [downL_len, swp_len]
theorem popL_last (z : α) (lt : α → α → Bool) (l : List α) (n : Nat) (h : l.length = n + 1) : gd z (popL z lt l n) n = gd z l 0 := by
  unfold popL
  by_cases n0 : n = 0
  · subst n0
    show gd z (swp z l 0 0) 0 = _
    rw [gd_swp z l (by omega) (by omega), if_pos rfl]
  · rw [downL_rest z lt _ _ 0 n n (by rw [swp_len]; omega) (by omega) (Nat.le_refl _), gd_swp z l (by omega) (by omega), if_pos rfl]
theorem gd_take (z : α) (l : List α) {n k : Nat} (h : k < n) : gd z (l.take n) k = gd z l k := by
  unfold gd
  simp only [List.getD_eq_getElem?_getD]
  rw [List.getElem?_take, if_pos h]
theorem popL_heap (z : α) {lt : α → α → Bool} (o : Ord lt) (l : List α) (n : Nat) (hl : l.length = n + 1) (h : IsHeap z lt l (n + 1)) : IsHeap z lt ((popL z lt l n).take n) n := by
  intro k h0 hk
  rw [gd_take z _ hk, gd_take z _ (by omega)]
  refine downL_heap z o n (swp z l 0 n) 0 n (by rw [swp_len]; omega) (by omega) (by omega) ?_ ?_ k h0 hk
  · intro k h0 hk hp
    rw [gd_swp z l (by omega) (by omega), gd_swp z l (by omega) (by omega), if_neg (by omega), if_neg (by omega), if_neg (by omega), if_neg hp]
    exact h k h0 (by omega)
  · intro k h0 hk hp h00
    omega
theorem take_snoc (z : α) (l : List α) (n : Nat) (h : l.length = n + 1) : l = l.take n ++ [gd z l n] := by
  rw [gd_get z l n (by omega)]
  have e := List.take_append_drop n l
  rw [List.drop_eq_getElem_cons (by omega), List.drop_eq_nil_of_le (by omega)] at e
  exact e.symm
theorem popL_perm (z : α) (lt : α → α → Bool) (l : List α) (n : Nat) (h : l.length = n + 1) : (gd z l 0 :: (popL z lt l n).take n).Perm l := by
  have h1 : (popL z lt l n).Perm l := (downL_perm z lt n _ 0 n (by rw [swp_len]; omega) (by rw [swp_len]; omega)).trans (swp_perm z l (by omega) (by omega))
  have h2 := take_snoc z (popL z lt l n) n (by rw [popL_len]; exact h)
  rw [popL_last z lt l n h] at h2
  rw [h2] at h1
  exact (List.perm_append_comm (l₁ := [gd z l 0])).trans h1
/-- in order -/
def Srt (lt : α → α → Bool) (s : List α) : Prop := s.Pairwise fun a b => lt a b = true
theorem pop_first (z : α) {lt : α → α → Bool} (o : Ord lt) {q s : List α} {n : Nat} (hl : q.length = n + 1) (hh : IsHeap z lt q (n + 1)) (hp : q.Perm s) (hs : Srt lt s) :
    ∃ t, s = gd z q 0 :: t ∧ ((popL z lt q n).take n).Perm t ∧ Srt lt t := by
  have hlen := hp.length_eq
  match s, hs, hp, hlen with
  | [], _, _, e => exact absurd e (by simp only [List.length_nil]; omega)
  | x :: t, hs, hp, _ =>
    have hm : gd z q 0 ∈ x :: t := hp.mem_iff.1 (by rw [gd_get z q 0 (by omega)]; exact List.getElem_mem _)
    have e : gd z q 0 = x := by
      rcases List.mem_cons.1 hm with e | e
      · exact e
      · have h1 : lt x (gd z q 0) = true := (List.pairwise_cons.1 hs).1 _ e
        have h2 : x ∈ q := hp.mem_iff.2 (List.mem_cons_self)
        obtain ⟨k, hk, hx⟩ := List.mem_iff_getElem.1 h2
        have h3 := heap_min z o hh k k (Nat.le_refl _) (by omega)
        rw [gd_get z q k hk, hx, h1] at h3
        cases h3
    refine ⟨t, by rw [e], ?_, (List.pairwise_cons.1 hs).2⟩
    have h4 := (popL_perm z lt q n hl).trans hp
    rw [e] at h4
    exact h4.cons_inv
end Go.Proofs.Ythoipeamdolfgaa.Hp
