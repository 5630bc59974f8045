/- Reader.Num and Reader.Bytes, told whole. -/
import Derived.Test.YtecmeejbpkcgiaaRdB
open Go Go.RowKit
namespace Go.Proofs.Ytecmeejbpkcgiaa
theorem Num_calls (g d : Nat) (s : RS) (w : World) (h : RdrAt w g d s) (hl : s.b.length ≤ 1000000000000) :
    Calls Try.prog 110 #[.pointer (some ⟨g, 0, none⟩)] w fun e w' => e = .returned (.int .i64 s.num.1) ∧ Hid (RdrAt w' g d s.num.2) ∧ Hid (Chg (fun k => k = g) w w') := by
  rcases he : s.e with _ | _
  · exact Num_good g d s w h he hl
  · have hs := RS.eta_bad h.ok he
    subst hs
    have hnum : RS.bad.num = (0, RS.bad) := rfl
    rw [hnum]
    have H := Lib.hid h
    clear h hnum he
    have hbt : (!RS.bad.e) = false := rfl
    go_enter Try.func110, Try.ntmps110
    go_wp2_with fail
    refine (Good_calls g d RS.bad _ H.out).mono ?_
    rintro e w2 ⟨rfl, rfl⟩
    go_wp2_with fail
    go_ret
    exact ⟨rfl, H, Chg.refl _ _⟩
theorem RS.num_le (s : RS) : s.num.2.b.length ≤ s.b.length := by
  have key : ∀ (l : List UInt8) i acc n r, parse i acc l = some (n, r) → r.length ≤ l.length := by
    intro l
    induction l with
    | nil => intro i acc n r h; rw [parse] at h; cases h
    | cons b l ih =>
      intro i acc n r h
      rw [parse] at h
      split at h
      · cases h
      · split at h
        · have := ih _ _ _ _ h; simp; omega
        · split at h
          · cases h
          · injection h with h; injection h with h1 h2; subst h2; simp
  unfold RS.num
  split
  · exact Nat.le_refl _
  · split
    · rename_i n r h
      exact key _ _ _ _ _ h
    · simp [RS.bad]
theorem parse_enc (n : Nat) : ∀ (i acc : Nat) (rest : List UInt8), (enc n).length + i ≤ 9 → (0 < n ∨ i = 0) → acc + n * 128 ^ i ≤ 4611686018427387904 → parse i acc (enc n ++ rest) = some (acc + n * 128 ^ i, rest) := by
  induction n using Nat.strongRecOn with
  | _ n ih =>
    intro i acc rest hlen h0 hle
    by_cases h : n < 128
    · rw [enc_small h] at hlen ⊢
      have hb : (UInt8.ofNat n).toNat = n := by simp; omega
      have hm : n % 128 = n := Nat.mod_eq_of_lt h
      show parse i acc (UInt8.ofNat n :: rest) = _
      rw [parse_end (by simp at hlen; omega) (by omega) (by rw [hb, hm]; exact hle) (by rw [hb]; omega), hb, hm]
    · rw [enc_large h] at hlen ⊢
      have hb : (UInt8.ofNat (n % 128 + 128)).toNat = n % 128 + 128 := by simp; omega
      have hm : (n % 128 + 128) % 128 = n % 128 := by omega
      have hp := enc_pos (n / 128)
      show parse i acc (UInt8.ofNat (n % 128 + 128) :: (enc (n / 128) ++ rest)) = _
      rw [parse_more (by simp at hlen; omega) (by omega), hb, hm]
      have e : acc + n % 128 * 128 ^ i + n / 128 * 128 ^ (i + 1) = acc + n * 128 ^ i := by
        rw [Nat.pow_succ]
        have h1 : n = n % 128 + n / 128 * 128 := by omega
        have h2 : n * 128 ^ i = (n % 128 + n / 128 * 128) * 128 ^ i := by rw [← h1]
        rw [h2, Nat.add_mul, Nat.mul_assoc, Nat.mul_comm 128 (128 ^ i)]
        omega
      rw [ih (n / 128) (by omega) (i + 1) _ rest (by simp at hlen; omega) (.inl (by omega)) (by rw [e]; exact hle), e]
theorem num_enc (n : Nat) (rest : List UInt8) (h : n ≤ 4611686018427387904) : RS.num ⟨enc n ++ rest, false⟩ = (n, ⟨rest, false⟩) := by
  unfold RS.num
  rw [if_neg (by simp)]
  show (match parse 0 0 (enc n ++ rest) with | some (n, r) => (n, (⟨r, false⟩ : RS)) | none => (0, RS.bad)) = _
  rw [parse_enc n 0 0 rest (by have := enc_len n h; omega) (.inr rfl) (by simpa using h)]
  simp
theorem parse_short (n : Nat) : ∀ (m i acc : Nat), m < (enc n).length → parse i acc ((enc n).take m) = none := by
  induction n using Nat.strongRecOn with
  | _ n ih =>
    intro m i acc hm
    by_cases h : n < 128
    · rw [enc_small h] at hm ⊢
      have : m = 0 := by simp at hm; omega
      subst this
      rw [List.take_zero, parse]
    · rw [enc_large h] at hm ⊢
      cases m with
      | zero => rw [List.take_zero, parse]
      | succ m =>
        rw [List.take_succ_cons]
        have hb : (UInt8.ofNat (n % 128 + 128)).toNat = n % 128 + 128 := by simp; omega
        rcases Nat.lt_or_ge i 9 with hi | hi
        · rw [parse_more hi (by rw [hb]; omega)]
          exact ih (n / 128) (by omega) m _ _ (by simpa using hm)
        · exact parse_long hi
end Go.Proofs.Ytecmeejbpkcgiaa
