/- OtKm -/
import Derived.Test.YtcgbgeheiklhhaaGreatTfOtQ
import Derived.Test.YtcgbgeheiklhhaaGreatTfOcRfB
open Go Go.RowKit
namespace Go.Proofs.YtcgbgeheiklhhaaGreat
theorem walkN_add (chain : Int) : ∀ (i a b : Nat) (h : H32), walkN chain (i + a) b (walkN chain i a h) = walkN chain i (a + b) h
  | i, 0, b, h => by rw [Nat.zero_add]; rfl
  | i, a + 1, b, h => by
    have e := walkN_add chain (i + 1) a b (stepH chain i h)
    have e1 : i + 1 + a = i + (a + 1) := by omega
    have e2 : a + 1 + b = (a + b) + 1 := by omega
    rw [e1] at e
    rw [e2]
    exact e
theorem walkS_two (chain a b c : Int) (h : H32) (h0 : 0 ≤ a) (h1 : a ≤ b) (h2 : b ≤ c) (h3 : c ≤ 3) : walkS chain b c (walkS chain a b h) = walkS chain a c h := by
  unfold walkS
  have e1 : (max b 0).toNat = (max a 0).toNat + (min b 3 - max a 0).toNat := by omega
  have e2 : (min c 3 - max a 0).toNat = (min b 3 - max a 0).toNat + (min c 3 - max b 0).toNat := by omega
  rw [e1, e2]
  exact walkN_add _ _ _ _ _
theorem digs_mem (h : H32) (k : Nat) : ∀ d ∈ digs h k, 0 ≤ d ∧ d ≤ 3 := by
  intro d hd
  obtain ⟨i, _, rfl⟩ := List.mem_map.1 hd
  exact digI_in _ _
theorem lastD_mem (q : Int) : ∀ n, ∀ d ∈ lastD n q, 0 ≤ d ∧ d ≤ 3
  | 0, d, hd => by cases hd
  | n + 1, d, hd => by
    rcases List.mem_append.1 hd with hd | hd
    · exact lastD_mem q n d hd
    · rw [List.mem_singleton.1 hd]; omega
theorem digits_in (m : List UInt8) (i : Nat) (h : i < 36) : 0 ≤ iget (digitsS m) i ∧ iget (digitsS m) i ≤ 3 := by
  have hm := iget_mem (digitsS m) i (by rw [digitsS_len]; exact h)
  rcases List.mem_append.1 hm with hm | hm
  · exact digs_mem _ _ _ hm
  · exact lastD_mem _ _ _ hm
theorem hget_mapH (g : H32 → Nat → H32) (l : List H32) (n k : Nat) (h : k < n) : hget (mapH g l n) k = g (hget l k) k := by
  simp [mapH, hget, List.getD_eq_getElem?_getD, h]
theorem recover_sign (seed : H32) (leaf : Int) (m : List UInt8) : recoverS m (signS seed leaf m) = publicS seed leaf := by
  unfold recoverS publicS
  congr 1
  refine List.map_congr_left fun i hi => ?_
  have hi' : i < 36 := List.mem_range.1 hi
  have hd := digits_in m i hi'
  show walkS i (iget (digitsS m) i) 3 (hget (mapH _ _ 36) i) = _
  rw [hget_mapH _ _ _ _ hi']
  exact walkS_two i 0 (iget (digitsS m) i) 3 _ (by decide) hd.1 hd.2 (by decide)
theorem signS_len (seed : H32) (leaf : Int) (m : List UInt8) : (signS seed leaf m).length = 36 := mapH_len _ _ _
end Go.Proofs.YtcgbgeheiklhhaaGreat
