/- Bytes of a signature are read as it was; what is cut or grown is none. -/
import Derived.Test.YtmijlojjkgeplaaKyP
import Derived.Test.YtmijlojjkgeplaaKyE
import Derived.Test.YtmijlojjkgeplaaOtKm
import Derived.Test.YtmijlojjkgeplaaMkQm
open Go Go.RowKit
namespace Go.Proofs.Ytmijlojjkgeplaa
theorem raw_flat (h : H32) (r : List UInt8) : (⟨h.l ++ r, false⟩ : RS).raw 32 = (h.l, ⟨r, false⟩) := by
  unfold RS.raw
  rw [if_neg (by
    rintro (h1 | h1 | h1)
    · cases h1
    · omega
    · rw [List.length_append, h.len] at h1
      omega)]
  show ((h.l ++ r).take 32, (⟨(h.l ++ r).drop 32, false⟩ : RS)) = _
  rw [List.take_left' h.len, List.drop_left' h.len]
theorem hs_flat (l : List H32) (r : List UInt8) : ∀ k, k ≤ l.length → (⟨flatH l ++ r, false⟩ : RS).hs k = l.take k ∧ (⟨flatH l ++ r, false⟩ : RS).hAt k = ⟨flatH (l.drop k) ++ r, false⟩ := by
  intro k
  induction k with
  | zero => intro _; exact ⟨rfl, rfl⟩
  | succ k ih =>
    intro hk
    obtain ⟨i1, i2⟩ := ih (by omega)
    have hd : l.drop k = l[k] :: l.drop (k + 1) := List.drop_eq_getElem_cons (by omega)
    have e : (⟨flatH (l.drop k) ++ r, false⟩ : RS).raw 32 = (l[k].l, ⟨flatH (l.drop (k + 1)) ++ r, false⟩) := by
      rw [hd]
      show (⟨(l[k].l ++ flatH (l.drop (k + 1))) ++ r, false⟩ : RS).raw 32 = _
      rw [List.append_assoc, raw_flat]
    constructor
    · show _ ++ [((⟨flatH l ++ r, false⟩ : RS).hAt k).hash] = _
      rw [i1, i2]
      have e2 : (⟨flatH (l.drop k) ++ r, false⟩ : RS).hash = l[k] := by
        unfold RS.hash
        rw [e]
        exact H32.ext' (by rw [dif_pos (show (l[k].l, (⟨flatH (l.drop (k + 1)) ++ r, false⟩ : RS)).1.length = 32 from l[k].len)])
      rw [e2, List.take_append_getElem (by omega)]
    · show (((⟨flatH l ++ r, false⟩ : RS).hAt k).raw 32).2 = _
      rw [i2, e]
theorem hs_all (l : List H32) (r : List UInt8) (n : Nat) (h : l.length = n) : (⟨flatH l ++ r, false⟩ : RS).hs n = l ∧ (⟨flatH l ++ r, false⟩ : RS).hAt n = ⟨r, false⟩ := by
  obtain ⟨h1, h2⟩ := hs_flat l r n (by omega)
  rw [List.take_of_length_le (by omega)] at h1
  rw [List.drop_of_length_le (by omega)] at h2
  exact ⟨h1, h2⟩
section
variable {leaf : Int} {l p : List H32} {more : List UInt8}
theorem num_sig (h0 : 0 ≤ leaf) (h16 : leaf < 16) (r : List UInt8) : (⟨encAll [leaf] ++ r, false⟩ : RS).num = (leaf.toNat, ⟨r, false⟩) := by
  have hc : clampN leaf = leaf.toNat := by unfold clampN; omega
  rw [encAll_one, hc, num_enc _ _ (by omega)]
theorem d_sig (h0 : 0 ≤ leaf) (h16 : leaf < 16) (hl : l.length = 36) (hp : p.length = 4) : dLeaf (sigB leaf l p ++ more) = leaf.toNat ∧ dL (sigB leaf l p ++ more) = l ∧ dP (sigB leaf l p ++ more) = p ∧ dS (sigB leaf l p ++ more) = ⟨more, false⟩ := by
  have e : sigB leaf l p ++ more = encAll [leaf] ++ (flatH l ++ (flatH p ++ more)) := by simp [sigB]
  have h1 := num_sig h0 h16 (flatH l ++ (flatH p ++ more))
  obtain ⟨h2, h3⟩ := hs_all l (flatH p ++ more) 36 hl
  obtain ⟨h4, h5⟩ := hs_all p more 4 hp
  unfold dLeaf dL dP dS dS1
  rw [e, h1]
  refine ⟨rfl, h2, ?_, ?_⟩
  · rw [h3]; exact h4
  · rw [h3]; exact h5
theorem dOk_sig (h0 : 0 ≤ leaf) (h16 : leaf < 16) (hl : l.length = 36) (hp : p.length = 4) : dOk (sigB leaf l p) = true := by
  obtain ⟨h1, _, _, h4⟩ := d_sig (more := []) h0 h16 hl hp
  rw [List.append_nil] at h1 h4
  unfold dOk dWhole
  rw [h1, h4]
  simp [isS]
  omega
theorem dOk_more (h0 : 0 ≤ leaf) (h16 : leaf < 16) (hl : l.length = 36) (hp : p.length = 4) (hm : more ≠ []) : dOk (sigB leaf l p ++ more) = false := by
  obtain ⟨_, _, _, h4⟩ := d_sig (more := more) h0 h16 hl hp
  unfold dOk dWhole
  rw [h4]
  simp [hm]
theorem hAt_bad (s : RS) (k : Nat) (h : s.e = true) : (s.hAt k).e = true := by
  induction k with
  | zero => exact h
  | succ k ih =>
    show ((s.hAt k).raw 32).2.e = true
    unfold RS.raw
    rw [if_pos (.inl ih)]
    rfl
theorem hAt_count (s : RS) (k : Nat) (h : (s.hAt k).e = false) : s.b.length = 32 * k + (s.hAt k).b.length := by
  induction k with
  | zero => simp [RS.hAt]
  | succ k ih =>
    have h1 : ((s.hAt k).raw 32).2.e = false := h
    have hn : ¬ ((s.hAt k).e = true ∨ (32 : Int) < 0 ∨ ((s.hAt k).b.length : Int) < 32) := by
      intro hc
      unfold RS.raw at h1
      rw [if_pos hc] at h1
      cases h1
    have h2 : (s.hAt k).e = false := by
      rcases he : (s.hAt k).e with _ | _
      · rfl
      · exact absurd (.inl he) hn
    have h3 := ih h2
    have h4 : (s.hAt (k + 1)).b.length = (s.hAt k).b.length - 32 := by
      show ((s.hAt k).raw 32).2.b.length = _
      unfold RS.raw
      rw [if_neg hn]
      show ((s.hAt k).b.drop 32).length = _
      rw [List.length_drop]
    have h5 : ¬ ((s.hAt k).b.length : Int) < 32 := fun h6 => hn (.inr (.inr h6))
    omega
theorem dWhole_len (b : List UInt8) (h : dWhole b = true) : (dS1 b).b.length = 1280 ∧ (dS1 b).e = false := by
  unfold dWhole at h
  rw [Bool.and_eq_true, decide_eq_true_eq] at h
  obtain ⟨h1, h2⟩ := h
  have he : (dS b).e = false := by simpa using h1
  have c2 := hAt_count ((dS1 b).hAt 36) 4 he
  have e1 : ((dS1 b).hAt 36).e = false := by
    rcases hx : ((dS1 b).hAt 36).e with _ | _
    · rfl
    · have := hAt_bad ((dS1 b).hAt 36) 4 hx
      rw [show ((dS1 b).hAt 36).hAt 4 = dS b from rfl, he] at this
      cases this
  have c1 := hAt_count (dS1 b) 36 e1
  have hl : (((dS1 b).hAt 36).hAt 4).b.length = 0 := by
    rw [show ((dS1 b).hAt 36).hAt 4 = dS b from rfl, h2]
    rfl
  refine ⟨by omega, ?_⟩
  rcases hx : (dS1 b).e with _ | _
  · rfl
  · have := hAt_bad (dS1 b) 36 hx
    rw [e1] at this
    cases this
theorem sigB_len (h0 : 0 ≤ leaf) (h16 : leaf < 16) (hl : l.length = 36) (hp : p.length = 4) : (sigB leaf l p).length = 1281 := by
  have hc : clampN leaf = leaf.toNat := by unfold clampN; omega
  have h1 : (encAll [leaf]).length = 1 := by rw [encAll_one, hc, enc_small (by omega)]; rfl
  rw [sigB, List.length_append, List.length_append, h1, flatH_len, flatH_len, hl, hp]
theorem dOk_cut (h0 : 0 ≤ leaf) (h16 : leaf < 16) (_hl : l.length = 36) (_hp : p.length = 4) (m : Nat) (hm : m < 1281) : dOk ((sigB leaf l p).take m) = false := by
  unfold dOk
  rcases hw : dWhole ((sigB leaf l p).take m) with _ | _
  · rfl
  · exfalso
    obtain ⟨h1, h2⟩ := dWhole_len _ hw
    have hc : clampN leaf = leaf.toNat := by unfold clampN; omega
    have he : encAll [leaf] = [UInt8.ofNat leaf.toNat] := by rw [encAll_one, hc, enc_small (by omega)]
    rcases m with _ | m
    · rw [List.take_zero] at h1
      exact absurd h1 (by decide)
    · have e : (sigB leaf l p).take (m + 1) = encAll [leaf] ++ (flatH l ++ flatH p).take m := by
        rw [sigB, List.append_assoc, he]
        rfl
      have h3 := num_sig h0 h16 ((flatH l ++ flatH p).take m)
      unfold dS1 at h1
      rw [e, h3] at h1
      have h4 : ((flatH l ++ flatH p).take m).length = 1280 := h1
      rw [List.length_take] at h4
      omega
theorem verify_sign (seed : H32) (used : Int) (m : List UInt8) (h0 : 0 ≤ used) (h16 : used < 16) : verifyS (pubS seed) m used (signS seed used m) (pathA (leavesS seed) used) = true := by
  obtain ⟨k, rfl⟩ := Int.eq_ofNat_of_zero_le h0
  have hk : k < 16 := by omega
  have hpa : pathA (leavesS seed) (k : Int) = pathL (leavesS seed) k := by
    unfold pathA
    rw [if_neg (by rw [leavesS_len]; omega)]
    rfl
  obtain ⟨h1, h2⟩ := up_root 4 (leavesS seed) k (leavesS_len seed) (by rw [leavesS_len]; exact hk)
  have h3 : hget (leavesS seed) k = publicS seed (k : Int) := by simp [hget, leavesS, List.getD_eq_getElem?_getD, hk]
  unfold verifyS
  rw [hpa, recover_sign, ← h3, show ((k : Int)).toNat = k from rfl, h2, signS_len, h1]
  simp [isS, pubS]
  omega
theorem path_len4 (seed : H32) (used : Int) (h0 : 0 ≤ used) (h16 : used < 16) : (pathA (leavesS seed) used).length = 4 := by
  obtain ⟨k, rfl⟩ := Int.eq_ofNat_of_zero_le h0
  have hk : k < 16 := by omega
  have hpa : pathA (leavesS seed) (k : Int) = pathL (leavesS seed) k := by
    unfold pathA
    rw [if_neg (by rw [leavesS_len]; omega)]
    rfl
  obtain ⟨h1, _⟩ := up_root 4 (leavesS seed) k (leavesS_len seed) (by rw [leavesS_len]; exact hk)
  rw [hpa, h1]
end
end Go.Proofs.Ytmijlojjkgeplaa
