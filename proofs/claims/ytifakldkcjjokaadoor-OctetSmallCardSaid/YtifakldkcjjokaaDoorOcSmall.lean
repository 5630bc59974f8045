/- A number has as few bytes as it can (the law OctetSmall). -/
import Derived.Test.YtifakldkcjjokaaDoorOcKnown
open Go Go.RowKit
namespace Go.Proofs.YtifakldkcjjokaaDoor
theorem enc_cnt (n : Nat) : (enc n).length = 1 + (if n / 128 = 0 then 0 else (enc (n / 128)).length) := by
  by_cases h : n < 128
  · rw [enc_small h, if_pos (by omega)]; rfl
  · rw [enc_large h, if_neg (by omega)]; simp; omega
theorem enc_pos (n : Nat) : 0 < (enc n).length := by have := enc_cnt n; omega
theorem enc_head (n : Nat) : ∃ b, (enc n)[0]? = some b ∧ (b.toNat < 128 ↔ n < 128) := by
  by_cases h : n < 128
  · exact ⟨UInt8.ofNat n, by rw [enc_small h]; rfl, by simp; omega⟩
  · exact ⟨UInt8.ofNat (n % 128 + 128), by rw [enc_large h]; rfl, by simp; omega⟩
theorem enc_last (n : Nat) : ∃ b, (enc n)[(enc n).length - 1]? = some b ∧ (0 < n → 0 < b.toNat) := by
  induction n using Nat.strongRecOn with
  | _ n ih =>
    by_cases h : n < 128
    · exact ⟨UInt8.ofNat n, by rw [enc_small h]; rfl, by simp; omega⟩
    · obtain ⟨b, h1, h2⟩ := ih (n / 128) (by omega)
      have hp := enc_pos (n / 128)
      refine ⟨b, ?_, fun _ => h2 (by omega)⟩
      rw [enc_large h]
      rw [show (UInt8.ofNat (n % 128 + 128) :: enc (n / 128)).length - 1 = ((enc (n / 128)).length - 1) + 1 by simp; omega, List.getElem?_cons_succ]
      exact h1
set_option maxRecDepth 100000 in
set_option maxHeartbeats 400000 in
theorem small_calls (v : Int) (w : World) (hT : TabOk w) :
    Calls Tryd.prog 9 #[.int .i64 v] w fun e w' => e = .returned (.bool true) ∧ Chg nowhere w w' := by
  have HT := Lib.hid hT
  clear hT
  rcases (show v < 0 ∨ (0 ≤ v ∧ 4611686018427387904 < v) ∨ (0 ≤ v ∧ v ≤ 4611686018427387904) by omega) with h | ⟨h, h2⟩ | ⟨h, h2⟩
  · go_enter Tryd.func9, Tryd.ntmps9
    go_wp2_with fail
    refine (known_calls _ HT.out).mono ?_
    rintro e w1 ⟨rfl, h1⟩
    have H1 := Lib.hid h1
    clear h1
    go_wp2
    go_ret
    exact ⟨rfl, H1.out⟩
  · go_enter Tryd.func9, Tryd.ntmps9
    go_wp2_with fail
    refine (known_calls _ HT.out).mono ?_
    rintro e w1 ⟨rfl, h1⟩
    have H1 := Lib.hid h1
    clear h1
    go_wp2
    go_ret
    exact ⟨rfl, H1.out⟩
  · obtain ⟨n, rfl⟩ := Int.eq_ofNat_of_zero_le h
    have hn9 : n ≤ 9223372036854775807 := by omega
    have HN : Hid (n ≤ 4611686018427387904) := Lib.hid (by omega)
    have h2' : ¬ (4611686018427387904 < (n : Int)) := by omega
    go_enter Tryd.func9, Tryd.ntmps9
    go_wp2_with fail
    refine (Nums_calls w.heap.size none [] _ _ _ [(n : Int)] _ ((WrAt.new w).chg (S := nowhere) ((Chg.refl _ _).alloc _) (fun _ _ h => h)) (Rd.lit' _ _ [_] _ (by simp)) rfl ((WrAt.new w).fresh (by simp)) (by simp)).mono ?_
    rintro e w1 ⟨rfl, A1, h1, h2, h3⟩
    have HC := Lib.hid ((((Chg.refl nowhere w).alloc _).alloc _).step h2 (wf_new _))
    rw [show [] ++ encAll [(n : Int)] = enc n by rw [encAll_one, clampN_nat _ HN.out]; rfl] at h1
    have H1 := Lib.hid h1
    clear h1 h2 h3
    go_wp2_with fail
    refine (Out_calls _ _ _ _ H1.out (by have := enc_len n HN.out; omega)).mono ?_
    rintro e w3 ⟨A3, n3, c3, rfl, hn3, ho3, hch3, hge3⟩
    have HC3 := Lib.hid (HC.out.step hch3.out (fun _ h => h.elim))
    clear hch3
    have hn3' := enc_len n HN.out
    rw [← hn3.out] at hn3'
    go_wp2
    go_loop [5, 6] (fun s t => ∃ j m : Nat, j ≤ 9 ∧ m ≤ n ∧ s = .int .i64 j ∧ t = .int .i64 m ∧ n3 = j + (if m = 0 then 0 else (enc m).length)) (fun _ t => (intOf t).toNat)
    case atStart => exact ⟨1, n / 128, by omega, by omega, rfl, by go_num, by rw [hn3.out]; exact enc_cnt n⟩
    case round =>
      obtain ⟨j, m, hj, hm, rfl, rfl, hrel⟩ := hrel
      have HREL := Lib.hid hrel
      clear hrel
      by_cases hlt : 0 < m
      · have e1 : (0 : Int) < m := by omega
        have e2 : (0 : Int) ≤ m := by omega
        have e3 : m ≤ 9223372036854775807 := by omega
        have hj' : j < 9 := by
          have h1 := HREL.out
          rw [if_neg (by omega)] at h1
          have := enc_pos m
          omega
        go_wp2
        refine ⟨⟨j + 1, m / 128, by omega, by omega, by go_num, by go_num, ?_⟩, by simp [intOf]; omega⟩
        have h1 := HREL.out
        rw [if_neg (by omega), enc_cnt m] at h1
        omega
      · have hm0 : m = 0 := by omega
        subst hm0
        have hjn : j = n3 := by have := HREL.out; simpa using this.symm
        subst hjn
        have hjl := hn3.out
        have hjp := enc_pos n
        have hcnt := enc_cnt n
        rcases ho3.out.form with ⟨_, hz, _⟩ | ⟨g3, cur, rfl, _⟩
        · omega
        have hrd := ho3.out.rd
        obtain ⟨a0, b0, ha0, hx0, hc0⟩ := hrd.byte (k := 0) (by omega)
        obtain ⟨a1, b1, ha1, hx1, hc1⟩ := hrd.byte (k := j - 1) (by omega)
        injection ha0 with ha0
        injection ha1 with ha1
        subst ha0
        subst ha1
        rw [add_row] at hc0 hc1
        obtain ⟨b0', hb0, hb0'⟩ := enc_head n
        obtain ⟨b1', hb1, hb1'⟩ := enc_last n
        rw [hx0] at hb0
        rw [← hjl, hx1] at hb1
        injection hb0 with hb0
        injection hb1 with hb1
        subst hb0
        subst hb1
        have HJ := Lib.hid hjl
        clear hx0 hx1 hjl hrd
        by_cases hs : n < 128
        · have hj1 : j = 1 := by rw [if_pos (by omega)] at hcnt; have := HJ.out; omega
          subst hj1
          have f1 : ((b0.toNat : Int) < 128) := by have := hb0'.2 hs; omega
          have f2 : ((n : Int) < 128) := by omega
          clear hcnt hjp hb0' hb1' hc1
          go_wp2_with fail
          refine (known_calls _ (HT.out.chg HC3.out (fun h => h))).mono ?_
          rintro e w4 ⟨rfl, h4⟩
          have H4 := Lib.hid (HC3.out.step h4 (fun _ h => h.elim))
          clear h4
          go_wp2
          go_ret
          exact ⟨rfl, H4.out⟩
        · have hj1 : j ≠ 1 := by
            rw [if_neg (by omega)] at hcnt
            have := enc_pos (n / 128)
            have := HJ.out
            omega
          have f1 : ¬ ((b0.toNat : Int) < 128) := by have := hb0'.1; omega
          have f2 : ¬ ((n : Int) < 128) := by omega
          have f3 : (((j : Int)) == 1) = false := by simp; omega
          have f4 : ((b1.toNat : Int) != 0) = true := by have := hb1' (by omega); rw [bne_iff_ne]; omega
          have f5 : 1 ≤ j := by have := HJ.out; omega
          have f6 : (j : Int) - 1 < j := by omega
          have f7 : (0 : Int) ≤ (j : Int) - 1 := by omega
          clear hcnt hjp hb0' hb1'
          go_wp2_with fail
          refine (known_calls _ (HT.out.chg HC3.out (fun h => h))).mono ?_
          rintro e w4 ⟨rfl, h4⟩
          have H4 := Lib.hid (HC3.out.step h4 (fun _ h => h.elim))
          clear h4
          go_wp2
          go_ret
          exact ⟨rfl, H4.out⟩
end Go.Proofs.YtifakldkcjjokaaDoor
