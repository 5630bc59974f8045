/- RdB, RdC, WtA, RdN, WtB, WtC, RdD, RrA, RrB -/
import Derived.Test.YtmnapacibpnodaaGreatUeRdA
import Derived.Test.YtmnapacibpnodaaGreatUeOcRfC
section
open Go Go.RowKit
namespace Go.Proofs.YtmnapacibpnodaaGreat
theorem ofInt_i64 (a : Nat) (ha : a < 9223372036854775808) : (BitVec.ofInt 64 (a : Int)).toNat = a := by
  rw [BitVec.ofInt_natCast, BitVec.toNat_ofNat]; exact Nat.mod_eq_of_lt (by omega)
theorem i64_or_nat (a b : Nat) (ha : a < 9223372036854775808) (hb : b < 9223372036854775808) : bits .or .i64 (a : Int) (b : Int) = ((a ||| b : Nat) : Int) := by
  have hx : a ||| b < 2 ^ 63 := Nat.or_lt_two_pow (by omega) (by omega)
  show IntKind.i64.wrap ((BitVec.ofInt 64 (a : Int) ||| BitVec.ofInt 64 (b : Int)).toNat : Int) = _
  rw [BitVec.toNat_or, ofInt_i64 a ha, ofInt_i64 b hb, IntKind.wrap_i64]
  omega
theorem u8_clear128 (b : UInt8) : bits .andNot .u8 (b.toNat : Int) 128 = ((b.toNat % 128 : Nat) : Int) := by
  have := b.toNat_lt
  rw [show (128 : Int) = ((128 : Nat) : Int) from rfl, u8_andNot_nat _ _ (by omega) (by omega), nat_mask7]
theorem u8_and128 (b : UInt8) : bits .and .u8 (b.toNat : Int) 128 = ((b.toNat / 128 * 128 : Nat) : Int) := by
  have := b.toNat_lt
  rw [show (128 : Int) = ((128 : Nat) : Int) from rfl, u8_and_nat _ _ (by omega) (by omega)]
  have h := nat_bit 7 b.toNat
  rw [show (2 : Nat) ^ 7 = 128 from rfl] at h
  rw [h]
  congr 2
  omega
theorem or_shift (k acc lo : Nat) (hk : k < 9) (hacc : acc < 128 ^ k) (hlo : lo < 128) : bits .or .i64 (acc : Int) (wrap64 ((lo : Int) * 2 ^ (7 * k))) = ((acc + lo * 128 ^ k : Nat) : Int) ∧ acc + lo * 128 ^ k < 9223372036854775808 ∧ acc + lo * 128 ^ k < 128 ^ (k + 1) := by
  have e1 : (2 : Nat) ^ (7 * k) = 128 ^ k := by rw [Nat.pow_mul]
  have h1 : lo * 128 ^ k ≤ 127 * 128 ^ k := Nat.mul_le_mul_right _ (by omega)
  have h2 : 128 ^ k * 128 ≤ 9223372036854775808 := by
    have : (128 : Nat) ^ (k + 1) ≤ 128 ^ 9 := Nat.pow_le_pow_right (by decide) (by omega)
    rw [Nat.pow_succ] at this
    exact this
  have h3 : acc + lo * 128 ^ k < 128 ^ k * 128 := by omega
  have e2 : ((lo : Int) * 2 ^ (7 * k)) = ((lo * 128 ^ k : Nat) : Int) := by
    rw [← e1]
    simp
  refine ⟨?_, by omega, by rw [Nat.pow_succ]; exact h3⟩
  rw [e2, IntWalk.wrap64_in _ ⟨by omega, by omega⟩, i64_or_nat _ _ (by omega) (by omega)]
  congr 1
  rw [Nat.or_comm]
  have := nat_join (7 * k) (lo * 128 ^ k) acc (by rw [e1]; exact Nat.mul_mod_left _ _) (by rw [e1]; exact hacc)
  rw [this]
  omega
theorem parse_more {k acc : Nat} {b : UInt8} {r : List UInt8} (hk : k < 9) (h : 128 ≤ b.toNat) : parse k acc (b :: r) = parse (k + 1) (acc + b.toNat % 128 * 128 ^ k) r := by
  rw [parse, if_neg (by omega), if_pos h]
theorem parse_bad {k acc : Nat} {b : UInt8} {r : List UInt8} (hk : k < 9) (h : b.toNat < 128) (h2 : 4611686018427387904 < acc + b.toNat % 128 * 128 ^ k ∨ (b.toNat = 0 ∧ 0 < k)) : parse k acc (b :: r) = none := by
  rw [parse, if_neg (by omega), if_neg (by omega), if_pos h2]
theorem parse_end {k acc : Nat} {b : UInt8} {r : List UInt8} (hk : k < 9) (h : b.toNat < 128) (h2 : acc + b.toNat % 128 * 128 ^ k ≤ 4611686018427387904) (h3 : ¬ (b.toNat = 0 ∧ 0 < k)) : parse k acc (b :: r) = some (acc + b.toNat % 128 * 128 ^ k, r) := by
  rw [parse, if_neg (by omega), if_neg (by omega), if_neg (by omega)]
theorem parse_long {k acc : Nat} {r : List UInt8} (hk : 9 ≤ k) : parse k acc r = none := by
  rcases r with _ | ⟨b, r⟩
  · rw [parse]
  · rw [parse, if_pos hk]
set_option maxRecDepth 100000 in
set_option maxHeartbeats 800000 in
theorem Num_good (g d : Nat) (s : RS) (w : World) (h : RdrAt w g d s) (he : s.e = false) (hl : s.b.length ≤ 140737488351232) :
    Calls Tryz.prog 65 #[.pointer (some ⟨g, 0, none⟩)] w fun e w' => e = .returned (.int .i64 s.num.1) ∧ Hid (RdrAt w' g d s.num.2) ∧ Hid (Chg (fun k => k = g) w w') := by
  have H := Lib.hid h
  obtain ⟨⟨A, n, c, hn, hnc, hb, hr, hA⟩, hne, hok⟩ := h
  have hc0 : w.cell? ⟨g, 0, none⟩ = some (.slice A n c) := hb.cell 0
  have hf0 : w.frozen? ⟨g, 0, none⟩ = false := hb.frozen 0
  have hn9 : n ≤ 9223372036854775807 := by omega
  have HN := Lib.hid hn
  have HB := Lib.hid hb
  have HR := Lib.hid hr
  have HA := Lib.hid hA
  have HL := Lib.hid hl
  have HNUM : Hid (s.num = match parse 0 0 s.b with | some (n, r) => (n, ⟨r, false⟩) | none => (0, RS.bad)) := Lib.hid (by unfold RS.num; rw [he]; rfl)
  have het : (!s.e) = true := by rw [he]; rfl
  have HE := Lib.hid he
  clear hn hb hr hA hl he hok
  by_cases h9 : n ≤ 9
  · have f1 : (n : Int) ≤ 9 := by omega
    go_enter Tryz.func65, Tryz.ntmps65
    go_wp2_with fail
    refine (Good_calls g d s _ H.out).mono ?_
    rintro e w2 ⟨rfl, rfl⟩
    go_wp2_with fail
    go_quiet (fail)
    go_wp2_with fail
    go_loop [3, 21] (fun a t => ∃ k acc : Nat, k ≤ n ∧ t = .int .i64 k ∧ a = .int .i64 acc ∧ acc < 128 ^ k ∧ parse 0 0 s.b = parse k acc (s.b.drop k)) (fun _ t => n - (intOf t).toNat)
    case atStart => exact ⟨0, 0, Nat.zero_le _, rfl, rfl, by decide, rfl⟩
    case round =>
      obtain ⟨k, acc, hk, rfl, rfl, hacc, hpar⟩ := hrel
      by_cases hlt : k < n
      · have e1 : (k : Int) < n := by omega
        have hkl : k < s.b.length := by have := HN.out; omega
        obtain ⟨ad, b, rfl, hbk, hcb⟩ := HR.out.byte hkl
        have hk9 : k < 9 := by omega
        have hkn : k + 1 ≤ n := by omega
        have hkc : k + 1 ≤ c := by omega
        have hb8 := b.toNat_lt
        have q1 := u8_clear128 b
        have q2 := u8_and128 b
        obtain ⟨q3, hq, hq'⟩ := or_shift k acc (b.toNat % 128) hk9 hacc (by omega)
        have hdrop : s.b.drop k = b :: s.b.drop (k + 1) := by
          rw [List.drop_eq_getElem_cons hkl]
          rw [List.getElem?_eq_getElem hkl] at hbk
          injection hbk with hbk
          rw [hbk]
        rw [hdrop] at hpar
        obtain ⟨na, hna⟩ : ∃ na, na = acc + b.toNat % 128 * 128 ^ k := ⟨_, rfl⟩
        obtain ⟨lo, hlo⟩ : ∃ lo, lo = b.toNat % 128 := ⟨_, rfl⟩
        rw [← hlo] at q1 q3 hq hq' hna
        rw [← hna] at q3 hq hq'
        have HQ := Lib.hid hq'
        have HACC := Lib.hid hacc
        have hlo' : lo < 128 := by omega
        have HDROP := Lib.hid hdrop
        clear hacc hbk hkl hq' hdrop
        have hq9 : na ≤ 9223372036854775807 := by omega
        clear hq
        by_cases h128 : 128 ≤ b.toNat
        · have hp := parse_more (acc := acc) (r := s.b.drop (k + 1)) hk9 h128
          rw [← hlo, ← hna] at hp
          have HPAR := Lib.hid (hpar.trans hp)
          rw [show b.toNat / 128 * 128 = 128 by omega] at q2
          clear hpar hp hna hlo
          go_wp2_with fail
          exact ⟨⟨k + 1, na, by omega, by go_num, rfl, HQ.out, HPAR.out⟩, by simp [intOf]; omega⟩
        · rw [show b.toNat / 128 * 128 = 0 by omega] at q2
          by_cases hgt : 4611686018427387904 < na
          · have hp := parse_bad (b := b) (acc := acc) (r := s.b.drop (k + 1)) hk9 (by omega) (.inl (by rw [← hlo, ← hna]; exact hgt))
            have HPAR := Lib.hid (hpar.trans hp)
            have g1 : (4611686018427387904 : Int) < na := by omega
            clear hpar hp hna hlo hgt
            go_wp2_with fail
            refine (Bad_calls g d s _ (H.out.chg ((Chg.refl nowhere _).drewN nq) (fun h => h) (fun h => h))).mono ?_
            rintro e w4 ⟨rfl, h1, h2⟩
            go_wp2_with fail
            go_ret
            rw [HNUM.out, HPAR.out]
            exact ⟨rfl, h1, (((Chg.refl nowhere _).drewN nq).mono (fun _ _ h => h.elim)).trans h2.out (fun _ _ h => h)⟩
          · by_cases hz : b.toNat = 0 ∧ 0 < k
            · have hp := parse_bad (b := b) (acc := acc) (r := s.b.drop (k + 1)) hk9 (by omega) (.inr hz)
              have HPAR := Lib.hid (hpar.trans hp)
              have g1 : ¬ (4611686018427387904 : Int) < na := by omega
              have g2 : (b.toNat : Int) ≤ 0 := by omega
              have g3 : (0 : Int) < k := by omega
              clear hpar hp hna hlo hgt hz
              go_wp2_with fail
              refine (Bad_calls g d s _ (H.out.chg ((Chg.refl nowhere _).drewN nq) (fun h => h) (fun h => h))).mono ?_
              rintro e w4 ⟨rfl, h1, h2⟩
              go_wp2_with fail
              go_ret
              rw [HNUM.out, HPAR.out]
              exact ⟨rfl, h1, (((Chg.refl nowhere _).drewN nq).mono (fun _ _ h => h.elim)).trans h2.out (fun _ _ h => h)⟩
            · have hp := parse_end (b := b) (acc := acc) (r := s.b.drop (k + 1)) hk9 (by omega) (by rw [← hlo, ← hna]; omega) hz
              rw [← hlo, ← hna] at hp
              have HPAR := Lib.hid (hpar.trans hp)
              have g1 : ¬ (4611686018427387904 : Int) < na := by omega
              have hb2 := HB.out
              rw [HE.out] at hb2
              have HCUT := Lib.hid (fun A' c' => rdr_cut (A' := A') (c' := c') (k := k + 1) (hb2.drewN nq) (HR.out.drewN nq) HN.out hnc hkn HA.out hne)
              have HLO := Lib.hid hlo
              have HNA := Lib.hid hna
              clear hpar hp hna hlo hgt hb2
              by_cases hb0 : b.toNat = 0
              · have g2 : (b.toNat : Int) ≤ 0 := by omega
                obtain rfl : k = 0 := by omega
                obtain rfl : acc = 0 := by have := HACC.out; simpa using this
                obtain rfl : b = 0 := UInt8.toNat_inj.1 (by simpa using hb0)
                have q4 : bits .or .i64 0 0 = 0 := by decide
                have q5 : bits .andNot .u8 0 128 = 0 := by decide
                have q6 : bits .and .u8 0 128 = 0 := by decide
                obtain rfl : lo = 0 := by simpa using HLO.out
                obtain rfl : na = 0 := by simpa using HNA.out
                have hcb0 : w2.cell? (ad.add 0) = some (.int .u8 0) := hcb
                have hcb1 : w2.cell? ad = some (.int .u8 0) := by rw [← add_zero_spot ad]; exact hcb
                clear hcb
                clear hz g2 q1 q2 q3 hb0 g1
                go_wp2_with fail
                all_goals go_ret
                all_goals
                  rw [HNUM.out, HPAR.out]
                  refine ⟨rfl, HCUT.out _ _ ?_, Chg.setCell (S := fun k => k = g) ((Chg.refl _ _).drewN nq) (p := ⟨g, 0, none⟩) (fun _ => rfl) _⟩
                  first | exact .inl ⟨rfl, by omega, rfl⟩ | exact .inr ⟨rfl, rfl⟩
              · have g2 : (1 : Int) ≤ b.toNat := by omega
                clear hz
                go_wp2_with fail
                all_goals go_ret
                all_goals
                  rw [HNUM.out, HPAR.out]
                  refine ⟨rfl, HCUT.out _ _ ?_, Chg.setCell (S := fun k => k = g) ((Chg.refl _ _).drewN nq) (p := ⟨g, 0, none⟩) (fun _ => rfl) _⟩
                  first | exact .inl ⟨rfl, by omega, rfl⟩ | exact .inr ⟨rfl, rfl⟩
      · have e1 : (n : Int) ≤ k := by omega
        have hkL : k = n := by omega
        have HPAR : Hid (parse 0 0 s.b = none) := by
          show _ = _
          rw [hpar]
          first
            | exact parse_long (by omega)
            | (rw [List.drop_eq_nil_of_le (by have := HN.out; omega), parse])
        clear hpar
        go_wp2_with fail
        refine (Bad_calls g d s _ (H.out.chg ((Chg.refl nowhere _).drewN nq) (fun h => h) (fun h => h))).mono ?_
        rintro e w4 ⟨rfl, h1, h2⟩
        go_wp2_with fail
        go_ret
        rw [HNUM.out, HPAR.out]
        exact ⟨rfl, h1, (((Chg.refl nowhere _).drewN nq).mono (fun _ _ h => h.elim)).trans h2.out (fun _ _ h => h)⟩
  · have f1 : (9 : Int) < n := by omega
    go_enter Tryz.func65, Tryz.ntmps65
    go_wp2_with fail
    refine (Good_calls g d s _ H.out).mono ?_
    rintro e w2 ⟨rfl, rfl⟩
    go_wp2_with fail
    go_quiet (fail)
    go_wp2_with fail
    go_loop [3, 21] (fun a t => ∃ k acc : Nat, k ≤ 9 ∧ t = .int .i64 k ∧ a = .int .i64 acc ∧ acc < 128 ^ k ∧ parse 0 0 s.b = parse k acc (s.b.drop k)) (fun _ t => 9 - (intOf t).toNat)
    case atStart => exact ⟨0, 0, Nat.zero_le _, rfl, rfl, by decide, rfl⟩
    case round =>
      obtain ⟨k, acc, hk, rfl, rfl, hacc, hpar⟩ := hrel
      by_cases hlt : k < 9
      · have e1 : (k : Int) < 9 := by omega
        have hkl : k < s.b.length := by have := HN.out; omega
        obtain ⟨ad, b, rfl, hbk, hcb⟩ := HR.out.byte hkl
        have hk9 : k < 9 := by omega
        have hkn : k + 1 ≤ n := by omega
        have hkc : k + 1 ≤ c := by omega
        have hb8 := b.toNat_lt
        have q1 := u8_clear128 b
        have q2 := u8_and128 b
        obtain ⟨q3, hq, hq'⟩ := or_shift k acc (b.toNat % 128) hk9 hacc (by omega)
        have hdrop : s.b.drop k = b :: s.b.drop (k + 1) := by
          rw [List.drop_eq_getElem_cons hkl]
          rw [List.getElem?_eq_getElem hkl] at hbk
          injection hbk with hbk
          rw [hbk]
        rw [hdrop] at hpar
        obtain ⟨na, hna⟩ : ∃ na, na = acc + b.toNat % 128 * 128 ^ k := ⟨_, rfl⟩
        obtain ⟨lo, hlo⟩ : ∃ lo, lo = b.toNat % 128 := ⟨_, rfl⟩
        rw [← hlo] at q1 q3 hq hq' hna
        rw [← hna] at q3 hq hq'
        have HQ := Lib.hid hq'
        have HACC := Lib.hid hacc
        have hlo' : lo < 128 := by omega
        have HDROP := Lib.hid hdrop
        clear hacc hbk hkl hq' hdrop
        have hq9 : na ≤ 9223372036854775807 := by omega
        clear hq
        by_cases h128 : 128 ≤ b.toNat
        · have hp := parse_more (acc := acc) (r := s.b.drop (k + 1)) hk9 h128
          rw [← hlo, ← hna] at hp
          have HPAR := Lib.hid (hpar.trans hp)
          rw [show b.toNat / 128 * 128 = 128 by omega] at q2
          clear hpar hp hna hlo
          go_wp2_with fail
          exact ⟨⟨k + 1, na, by omega, by go_num, rfl, HQ.out, HPAR.out⟩, by simp [intOf]; omega⟩
        · rw [show b.toNat / 128 * 128 = 0 by omega] at q2
          by_cases hgt : 4611686018427387904 < na
          · have hp := parse_bad (b := b) (acc := acc) (r := s.b.drop (k + 1)) hk9 (by omega) (.inl (by rw [← hlo, ← hna]; exact hgt))
            have HPAR := Lib.hid (hpar.trans hp)
            have g1 : (4611686018427387904 : Int) < na := by omega
            clear hpar hp hna hlo hgt
            go_wp2_with fail
            refine (Bad_calls g d s _ (H.out.chg ((Chg.refl nowhere _).drewN nq) (fun h => h) (fun h => h))).mono ?_
            rintro e w4 ⟨rfl, h1, h2⟩
            go_wp2_with fail
            go_ret
            rw [HNUM.out, HPAR.out]
            exact ⟨rfl, h1, (((Chg.refl nowhere _).drewN nq).mono (fun _ _ h => h.elim)).trans h2.out (fun _ _ h => h)⟩
          · by_cases hz : b.toNat = 0 ∧ 0 < k
            · have hp := parse_bad (b := b) (acc := acc) (r := s.b.drop (k + 1)) hk9 (by omega) (.inr hz)
              have HPAR := Lib.hid (hpar.trans hp)
              have g1 : ¬ (4611686018427387904 : Int) < na := by omega
              have g2 : (b.toNat : Int) ≤ 0 := by omega
              have g3 : (0 : Int) < k := by omega
              clear hpar hp hna hlo hgt hz
              go_wp2_with fail
              refine (Bad_calls g d s _ (H.out.chg ((Chg.refl nowhere _).drewN nq) (fun h => h) (fun h => h))).mono ?_
              rintro e w4 ⟨rfl, h1, h2⟩
              go_wp2_with fail
              go_ret
              rw [HNUM.out, HPAR.out]
              exact ⟨rfl, h1, (((Chg.refl nowhere _).drewN nq).mono (fun _ _ h => h.elim)).trans h2.out (fun _ _ h => h)⟩
            · have hp := parse_end (b := b) (acc := acc) (r := s.b.drop (k + 1)) hk9 (by omega) (by rw [← hlo, ← hna]; omega) hz
              rw [← hlo, ← hna] at hp
              have HPAR := Lib.hid (hpar.trans hp)
              have g1 : ¬ (4611686018427387904 : Int) < na := by omega
              have hb2 := HB.out
              rw [HE.out] at hb2
              have HCUT := Lib.hid (fun A' c' => rdr_cut (A' := A') (c' := c') (k := k + 1) (hb2.drewN nq) (HR.out.drewN nq) HN.out hnc hkn HA.out hne)
              have HLO := Lib.hid hlo
              have HNA := Lib.hid hna
              clear hpar hp hna hlo hgt hb2
              by_cases hb0 : b.toNat = 0
              · have g2 : (b.toNat : Int) ≤ 0 := by omega
                obtain rfl : k = 0 := by omega
                obtain rfl : acc = 0 := by have := HACC.out; simpa using this
                obtain rfl : b = 0 := UInt8.toNat_inj.1 (by simpa using hb0)
                have q4 : bits .or .i64 0 0 = 0 := by decide
                have q5 : bits .andNot .u8 0 128 = 0 := by decide
                have q6 : bits .and .u8 0 128 = 0 := by decide
                obtain rfl : lo = 0 := by simpa using HLO.out
                obtain rfl : na = 0 := by simpa using HNA.out
                have hcb0 : w2.cell? (ad.add 0) = some (.int .u8 0) := hcb
                have hcb1 : w2.cell? ad = some (.int .u8 0) := by rw [← add_zero_spot ad]; exact hcb
                clear hcb
                clear hz g2 q1 q2 q3 hb0 g1
                go_wp2_with fail
                all_goals go_ret
                all_goals
                  rw [HNUM.out, HPAR.out]
                  refine ⟨rfl, HCUT.out _ _ ?_, Chg.setCell (S := fun k => k = g) ((Chg.refl _ _).drewN nq) (p := ⟨g, 0, none⟩) (fun _ => rfl) _⟩
                  first | exact .inl ⟨rfl, by omega, rfl⟩ | exact .inr ⟨rfl, rfl⟩
              · have g2 : (1 : Int) ≤ b.toNat := by omega
                clear hz
                go_wp2_with fail
                all_goals go_ret
                all_goals
                  rw [HNUM.out, HPAR.out]
                  refine ⟨rfl, HCUT.out _ _ ?_, Chg.setCell (S := fun k => k = g) ((Chg.refl _ _).drewN nq) (p := ⟨g, 0, none⟩) (fun _ => rfl) _⟩
                  first | exact .inl ⟨rfl, by omega, rfl⟩ | exact .inr ⟨rfl, rfl⟩
      · have e1 : (9 : Int) ≤ k := by omega
        have hkL : k = 9 := by omega
        have HPAR : Hid (parse 0 0 s.b = none) := by
          show _ = _
          rw [hpar]
          first
            | exact parse_long (by omega)
            | (rw [List.drop_eq_nil_of_le (by have := HN.out; omega), parse])
        clear hpar
        go_wp2_with fail
        refine (Bad_calls g d s _ (H.out.chg ((Chg.refl nowhere _).drewN nq) (fun h => h) (fun h => h))).mono ?_
        rintro e w4 ⟨rfl, h1, h2⟩
        go_wp2_with fail
        go_ret
        rw [HNUM.out, HPAR.out]
        exact ⟨rfl, h1, (((Chg.refl nowhere _).drewN nq).mono (fun _ _ h => h.elim)).trans h2.out (fun _ _ h => h)⟩
end Go.Proofs.YtmnapacibpnodaaGreat
end
section
open Go Go.RowKit
namespace Go.Proofs.YtmnapacibpnodaaGreat
theorem Num_calls (g d : Nat) (s : RS) (w : World) (h : RdrAt w g d s) (hl : s.b.length ≤ 140737488351232) :
    Calls Tryz.prog 65 #[.pointer (some ⟨g, 0, none⟩)] w fun e w' => e = .returned (.int .i64 s.num.1) ∧ Hid (RdrAt w' g d s.num.2) ∧ Hid (Chg (fun k => k = g) w w') := by
  rcases he : s.e with _ | _
  · exact Num_good g d s w h he hl
  · have hs := RS.eta_bad h.ok he
    subst hs
    have hnum : RS.bad.num = (0, RS.bad) := rfl
    rw [hnum]
    have H := Lib.hid h
    clear h hnum he
    have hbt : (!RS.bad.e) = false := rfl
    go_enter Tryz.func65, Tryz.ntmps65
    go_wp2_with fail
    refine (Good_calls g d RS.bad _ H.out).mono ?_
    rintro e w2 ⟨rfl, rfl⟩
    go_wp2_with fail
    go_ret
    exact ⟨rfl, H, Chg.refl _ _⟩
theorem RS.num_le (s : RS) : s.num.2.b.length ≤ s.b.length := by
  have key : ∀ (l : List UInt8) i acc n r, parse i acc l = some (n, r) → r.length ≤ l.length := by
    intro l
    induction l with
    | nil => intro i acc n r h; rw [parse] at h; cases h
    | cons b l ih =>
      intro i acc n r h
      rw [parse] at h
      split at h
      · cases h
      · split at h
        · have := ih _ _ _ _ h; simp; omega
        · split at h
          · cases h
          · injection h with h; injection h with h1 h2; subst h2; simp
  unfold RS.num
  split
  · exact Nat.le_refl _
  · split
    · rename_i n r h
      exact key _ _ _ _ _ h
    · simp [RS.bad]
theorem parse_enc (n : Nat) : ∀ (i acc : Nat) (rest : List UInt8), (enc n).length + i ≤ 9 → (0 < n ∨ i = 0) → acc + n * 128 ^ i ≤ 4611686018427387904 → parse i acc (enc n ++ rest) = some (acc + n * 128 ^ i, rest) := by
  induction n using Nat.strongRecOn with
  | _ n ih =>
    intro i acc rest hlen h0 hle
    by_cases h : n < 128
    · rw [enc_small h] at hlen ⊢
      have hb : (UInt8.ofNat n).toNat = n := by simp; omega
      have hm : n % 128 = n := Nat.mod_eq_of_lt h
      show parse i acc (UInt8.ofNat n :: rest) = _
      rw [parse_end (by simp at hlen; omega) (by omega) (by rw [hb, hm]; exact hle) (by rw [hb]; omega), hb, hm]
    · rw [enc_large h] at hlen ⊢
      have hb : (UInt8.ofNat (n % 128 + 128)).toNat = n % 128 + 128 := by simp; omega
      have hm : (n % 128 + 128) % 128 = n % 128 := by omega
      have hp := enc_pos (n / 128)
      show parse i acc (UInt8.ofNat (n % 128 + 128) :: (enc (n / 128) ++ rest)) = _
      rw [parse_more (by simp at hlen; omega) (by omega), hb, hm]
      have e : acc + n % 128 * 128 ^ i + n / 128 * 128 ^ (i + 1) = acc + n * 128 ^ i := by
        rw [Nat.pow_succ]
        have h1 : n = n % 128 + n / 128 * 128 := by omega
        have h2 : n * 128 ^ i = (n % 128 + n / 128 * 128) * 128 ^ i := by rw [← h1]
        rw [h2, Nat.add_mul, Nat.mul_assoc, Nat.mul_comm 128 (128 ^ i)]
        omega
      rw [ih (n / 128) (by omega) (i + 1) _ rest (by simp at hlen; omega) (.inl (by omega)) (by rw [e]; exact hle), e]
theorem num_enc (n : Nat) (rest : List UInt8) (h : n ≤ 4611686018427387904) : RS.num ⟨enc n ++ rest, false⟩ = (n, ⟨rest, false⟩) := by
  unfold RS.num
  rw [if_neg (by simp)]
  show (match parse 0 0 (enc n ++ rest) with | some (n, r) => (n, (⟨r, false⟩ : RS)) | none => (0, RS.bad)) = _
  rw [parse_enc n 0 0 rest (by have := enc_len n h; omega) (.inr rfl) (by simpa using h)]
  simp
end Go.Proofs.YtmnapacibpnodaaGreat
end
section
open Go Go.RowKit
namespace Go.Proofs.YtmnapacibpnodaaGreat
instance iWtA_1 : ZeroT Tryz.prog 26 (u8s zeroH.l) := ⟨.agg (u8s zeroH.l), fun _ => by kernel_rfl, rfl⟩
def RS.hsh (s : RS) : H32 := if h : (s.raw 32).1.length = 32 then ⟨(s.raw 32).1, h⟩ else zeroH
theorem RS.raw_c (s : RS) : (s.raw 32).1.length = 32 ∨ (s.raw 32).1 = [] := by
  unfold RS.raw
  split
  · exact .inr rfl
  · rename_i h
    refine .inl ?_
    show (s.b.take (32 : Int).toNat).length = 32
    rw [List.length_take]
    have : ¬ (s.b.length : Int) < 32 := fun h2 => h (.inr (.inr h2))
    omega
theorem RS.raw_l (s : RS) (i : Int) : (s.raw i).2.b.length ≤ s.b.length := by
  unfold RS.raw
  split
  · exact Nat.zero_le _
  · show (s.b.drop i.toNat).length ≤ _
    rw [List.length_drop]; omega
theorem RS.hsh_copy (s : RS) (m : Nat) (hm : m = (s.raw 32).1.length) : zeroH.l.take 0 ++ (s.raw 32).1 ++ zeroH.l.drop (0 + m) = s.hsh.l := by
  subst hm
  rcases s.raw_c with h | h
  · rw [RS.hsh, dif_pos h, h]
    show [] ++ (s.raw 32).1 ++ zeroH.l.drop 32 = _
    rw [show zeroH.l.drop 32 = [] from rfl, List.append_nil]
    rfl
  · rw [RS.hsh, dif_neg (by rw [h]; decide), h]
    rfl
section
variable {P : Program} {ops : Array Oper} {a : Act} {w : World} {dst : Option Tmp} {ty : TypeId} {pos : String} {after : Array Edge} {gd : Option (Nat × Bool)}
/-- an array as a slice -/
theorem ev_sl_arr0 {t e : TypeId} {x : Operand} {g m : Nat} (hx : a.eval x = .pointer (some ⟨g, 0, none⟩)) (hu : P.underlying t = some (.array m e)) (hs : (P.info? e).map (·.size) = some 1) :
    (execOp a.eval ⟨dst, .slice t x none none none, ty, pos, after, gd⟩).run P w = .ok (.value (.slice (some ⟨g, 0, none⟩) m m)) w := by
  show ((Instr.sliceAt t (a.eval x) none none none) >>= fun v => pure (Next.value v)).run P w = _
  rw [hx]
  cases hq : P.info? e with
  | none => rw [hq] at hs; simp at hs
  | some i => simp [Instr.sliceAt, run_underlying hu, Instr.sureAddr, Instr.sliceBounds, sizeOf, typeInfo, hq, add_zero_spot]
end
def gz2 (g z : Nat) : Nat → Prop := fun x => x = g ∨ x = z
instance (w : World) (g z : Nat) : Sub w (only g) (gz2 g z) := ⟨fun _ _ h => .inl h⟩
instance (w : World) (g z : Nat) : Sub w (only z) (gz2 g z) := ⟨fun _ _ h => .inr h⟩
instance (w : World) (g z : Nat) : Into w (only g) (gz2 g z) := ⟨fun _ _ h => .inl h⟩
instance (w : World) (g z : Nat) : Into w (only z) (gz2 g z) := ⟨fun _ _ h => .inr h⟩
set_option maxRecDepth 100000 in
set_option maxHeartbeats 1600000 in
theorem takeHash_calls {g d : Nat} {s : RS} {w : World} (hw : RdrAt w g d s) (hl : s.b.length ≤ 140737488351232) :
    Calls Tryz.prog 71 #[.pointer (some ⟨g, 0, none⟩)] w fun e w' => e = .returned (.agg (u8s s.hsh.l)) ∧ Step (only g) w w' ∧ RdrAt w' g d (s.raw 32).2 := by
  have HW0 := Lib.hid hw
  have HL := Lib.hid hl
  have hgl := hw.lt
  have hdl := hw.dlt
  clear hw hl
  go_enter Tryz.func71, Tryz.ntmps71
  go_wp2_with (first | ((with_reducible apply (wpl_alloc (dst := some 2))); intro zo wzo _ _ _) | ((with_reducible apply (wpl_alloc (dst := some 3))); intro zh wzh _ _ _))
  have hzo : w.heap.size ≤ zo := Nat.le_of_eq (inferInstance : Born w zo).eq.symm
  have hzh : w.heap.size ≤ zh := by
    have e1 := (inferInstance : Born wzo zh).eq
    have e2 := (inferInstance : SzLe w wzo).out
    omega
  have hb0 : HB wzh zh 26 (u8s zeroH.l) := inferInstance
  have o1 : OffB (only g) zh := ⟨fun e => by have e' : zh = g := e; omega⟩
  have o2 : OffB (only g) zo := ⟨fun e => by have e' : zo = g := e; omega⟩
  have hq0 : zeroH.l.length = 32 := rfl
  refine wp_region_N ((gz2 g zh)) (by kernel_rfl) (fun wd _ _ => ?_)
  refine' takeH (i := 0) (v := _) rfl (by kernel_rfl) (by kernel_rfl) (by kernel_rfl) (fun _ _ _ h => h) (yields_of (by rfl) (fun w' _ => ?_)) inferInstance ?_
  rotate_left
  · ((with_reducible apply ev_sl_arr0); (exact rfl); (exact Tryz.underlying26); (kernel_rfl))
  try simp only [Act.put, sA]; try simp only [sB, sC]
  refine' takeH (i := 1) (v := _) rfl (by kernel_rfl) (by kernel_rfl) (by kernel_rfl) (fun _ _ _ h => h) (yields_of (by rfl) (fun w' _ => ?_)) inferInstance ?_
  rotate_left
  · (go_simp; try with_reducible rfl)
  try simp only [Act.put, sA]; try simp only [sB, sC]
  refine goH (i := 2) (by kernel_rfl) rfl (fun K_ hK_ => ?_)
  go_simp
  refine (Raw_calls g d s 32 wd (HW0.out.chg (stepN (w0 := w) (w := wd)).chg (fun h => h) (fun h => h)) (by have := HL.out; omega)).mono ?_
  rintro e w5 ⟨A5, n5, c5, rfl, hn5, ho5, h5, cc5, hA5⟩
  have st5 : Step (only g) wd w5 := ⟨cc5.out⟩
  have hr5 : HR w5 A5 (bs (s.raw 32).1) := ⟨ho5.out.rd⟩
  have hle5 : n5 ≤ 32 := by
    have := hn5.out
    rcases s.raw_c with h | h
    · omega
    · rw [h] at this; simp at this; omega
  have hfit5 : 0 + n5 ≤ zeroH.l.length := by omega
  refine hK_.out _ _ inferInstance (fun _ => ?_)
  clear hK_ K_
  try simp only [Act.put, sA]; try simp only [sB, sC]
  refine goH (i := 3) (by kernel_rfl) rfl (fun K_ hK_ => ?_)
  rw [if_pos (by kernel_rfl)]
  refine wpr_of_list ?_
  (first | ((with_reducible apply wpl_copy); (exact Tryz.underlying34); (kernel_rfl); (exact rfl); (exact rfl); infer_instance; (exact hr5); (exact hn5.out.symm); (exact hle5); (exact hfit5); intro wc _ hbc) | ((with_reducible apply wpl_copy); (exact Tryz.underlying34); (kernel_rfl); (exact rfl); (exact rfl); infer_instance; infer_instance; (first | (with_reducible assumption) | (with_reducible exact H32.len _) | (focus (simp; done))); (first | (with_reducible assumption) | omega); (first | (with_reducible assumption) | omega | (focus (simp; done)) | (focus (simp; omega; done)) | decide); intro wc _ _))
  refine wpList_nil ?_
  unfold onlyN
  refine hK_.out _ _ inferInstance (fun _ => ?_)
  clear hK_ K_
  try simp only [Act.put, sA]; try simp only [sB, sC]
  refine wpAnyH_done (by kernel_rfl) ?_ _
  have hnx := s.hsh_copy n5 hn5.out
  rw [hnx] at hbc
  have hH : HB wc zh 26 (u8s s.hsh.l) := hbc
  have h9 : RdrAt wc g d (s.raw 32).2 := h5.out.chg2 (inferInstance : Step (only zh) w5 wc).chg (fun e => by have e' : g = zh := e; omega) (fun hne e => by
    have e' : d = zh := e
    have := hdl (fun h0 => hne (List.eq_nil_of_length_eq_zero (by have := s.raw_l 32; rw [h0] at this; simpa using this)))
    omega)
  have HR9 := Lib.hid h9
  have hlen9 : (u8s s.hsh.l).size = 32 := H32.size _
  clear h9 hnx h5
  go_wp2_with (first | ((with_reducible apply wpl_loadrow); (exact rfl); infer_instance; infer_instance; (first | (with_reducible assumption) | (with_reducible exact H32.size _) | kernel_rfl)) | ((with_reducible apply wpl_storerow); (exact rfl); (exact rfl); infer_instance; infer_instance; (first | (with_reducible assumption) | (with_reducible exact H32.size _) | kernel_rfl); (first | (with_reducible assumption) | (with_reducible exact H32.size _) | kernel_rfl); (first | (with_reducible exact u8s_one _) | (with_reducible assumption) | kernel_rfl); intro ws _ _))
  refine ret_row rfl rfl (n := 32) (H32.size _) rfl ⟨rfl, stepC, ?_⟩
  exact HR9.out.chg2 (inferInstance : Ch (only zo) wc ws).out (fun e => by have e' : g = zo := e; omega) (fun hne e => by
    have e' : d = zo := e
    have := hdl (fun h0 => hne (List.eq_nil_of_length_eq_zero (by have := s.raw_l 32; rw [h0] at this; simpa using this)))
    omega)
end Go.Proofs.YtmnapacibpnodaaGreat
end
section
open Go Go.RowKit
namespace Go.Proofs.YtmnapacibpnodaaGreat
/-- the reader behind so many numbers -/
def RS.at (s : RS) : Nat → RS
  | 0 => s
  | k + 1 => (s.at k).num.2
theorem RS.at_le (s : RS) (k : Nat) : (s.at k).b.length ≤ s.b.length := by
  induction k with
  | zero => exact Nat.le_refl _
  | succ k ih => exact Nat.le_trans (RS.num_le _) ih
theorem RS.at_ne {s : RS} {k : Nat} (h : (s.at k).b ≠ []) : s.b ≠ [] := by
  intro h0
  have h1 := s.at_le k
  rw [h0] at h1
  exact h (List.eq_nil_of_length_eq_zero (by simpa using h1))
def ptrs (ps : List (Option Addr)) : List Value := ps.map .pointer
/-- what a block holds when k numbers have been laid into their places -/
def putN (z : Nat) (ps : List (Option Addr)) (s : RS) : Nat → Array Value → Array Value
  | 0, cs => cs
  | k + 1, cs => match ps[k]? with
    | some (some ad) => if ad.block = z then (putN z ps s k cs).setIfInBounds ad.off (.int .i64 (s.at k).num.1) else putN z ps s k cs
    | _ => putN z ps s k cs
theorem putN_size (z : Nat) (ps : List (Option Addr)) (s : RS) (k : Nat) (cs : Array Value) : (putN z ps s k cs).size = cs.size := by
  induction k with
  | zero => rfl
  | succ k ih =>
    unfold putN
    split
    · split
      · rw [Array.size_setIfInBounds, ih]
      · exact ih
    · exact ih
def NumsS (g : Nat) (ps : List (Option Addr)) : Nat → Prop := fun x => x = g ∨ ∃ ad, some ad ∈ ps ∧ ad.block = x
set_option maxRecDepth 100000 in
set_option maxHeartbeats 800000 in
theorem rNums_calls (g d : Nat) (s : RS) (A : Option Addr) (n c : Nat) (ps : List (Option Addr)) (w : World) (h : RdrAt w g d s) (hl : s.b.length ≤ 140737488351232) (hr : Rd w A (ptrs ps)) (hn : ps.length = n) (hmax : n ≤ 1000) (hA : Apart (NumsS g ps) A (ptrs ps))
    (hps : ∀ ad, some ad ∈ ps → ∃ z k t cs, ad = ⟨z, k, none⟩ ∧ Blk w z t cs ∧ k < cs.size ∧ z ≠ g ∧ (s.b ≠ [] → z ≠ d)) :
    Calls Tryz.prog 72 #[.pointer (some ⟨g, 0, none⟩), .slice A n c] w fun e w' => e = .returned (.tuple #[]) ∧ Hid (RdrAt w' g d (s.at n)) ∧ Hid (Chg (NumsS g ps) w w') ∧
      Hid (∀ z t cs, z ≠ g → Blk w z t cs → Blk w' z t (putN z ps s n cs)) := by
  have H := Lib.hid h
  have HL := Lib.hid hl
  have HR := Lib.hid hr
  have HN := Lib.hid hn
  have HAP := Lib.hid hA
  have HPS := Lib.hid hps
  have hn9 : n ≤ 9223372036854775807 := by omega
  clear h hl hr hn hA hps
  go_enter Tryz.func72, Tryz.ntmps72
  go_wp2_with fail
  go_loopw [9] (fun t wr => ∃ k : Nat, k ≤ n ∧ t = .int .i64 k ∧ Hid (RdrAt wr g d (s.at k)) ∧ Hid (Chg (NumsS g ps) w wr) ∧ Hid (∀ z t cs, z ≠ g → Blk w z t cs → Blk wr z t (putN z ps s k cs))) (fun t _ => n - (intOf t).toNat)
  case atStart => exact ⟨0, Nat.zero_le _, rfl, H, Lib.hid (Chg.refl _ _), Lib.hid (fun _ _ _ _ h => h)⟩
  case round =>
    obtain ⟨k, hk, rfl, HW, HC, HB⟩ := hrel
    by_cases hlt : k < n
    · have e1 : (k : Int) < n := by omega
      have hkl : k < ps.length := by have := HN.out; omega
      obtain ⟨p, hp⟩ : ∃ p, ps[k] = p := ⟨_, rfl⟩
      have hpk : ps[k]? = some p := by rw [List.getElem?_eq_getElem hkl, hp]
      have hmem : p ∈ ps := by rw [← hp]; exact List.getElem_mem hkl
      obtain ⟨ad, rfl, hc⟩ := (HR.out.chg HC.out HAP.out) k (.pointer p) (by simp [ptrs, hpk])
      have HPK := Lib.hid hpk
      have HMEM := Lib.hid hmem
      clear hp hpk hmem hkl
      rcases p with _ | pd
      · go_wp2_with fail
        refine (Num_calls g d (s.at k) _ HW.out (Nat.le_trans (s.at_le k) HL.out)).mono ?_
        rintro e w1 ⟨rfl, h1, h2⟩
        have HB1 : Hid (∀ z t cs, z ≠ g → Blk w z t cs → Blk w1 z t (putN z ps s (k + 1) cs)) := Lib.hid (fun z t cs hz hb => by
          have := (HB.out z t cs hz hb).chg h2.out hz
          unfold putN
          rw [HPK.out]
          exact this)
        go_wp2_with fail
        exact ⟨⟨k + 1, by omega, by go_num, h1, Lib.hid (HC.out.trans h2.out (fun x _ hx => .inl hx)), HB1⟩, by simp [intOf]; omega⟩
      · obtain ⟨z, j, t, cs, rfl, hb, hj, hzg, hzd⟩ := HPS.out _ HMEM.out
        have HBB := Lib.hid hb
        have HJ := Lib.hid hj
        clear hb hj
        go_wp2_with fail
        refine (Num_calls g d (s.at k) _ HW.out (Nat.le_trans (s.at_le k) HL.out)).mono ?_
        rintro e w1 ⟨rfl, h1, h2⟩
        have hb1 := (HB.out z t cs hzg HBB.out).chg h2.out hzg
        have hcz : w1.cell? ⟨z, j, none⟩ = some (putN z ps s k cs)[j]! := by
          rw [hb1.cell j, getElem!_pos _ j (by rw [putN_size]; exact HJ.out)]
          exact Array.getElem?_eq_getElem _
        have hfz : w1.frozen? ⟨z, j, none⟩ = false := hb1.frozen j
        have HB1 : Hid (∀ z' t' cs', z' ≠ g → Blk w z' t' cs' → Blk (w1.setCell ⟨z, j, none⟩ (.int .i64 (s.at k).num.1)) z' t' (putN z' ps s (k + 1) cs')) := Lib.hid (fun z' t' cs' hz' hb' => by
          have h5 := (HB.out z' t' cs' hz' hb').chg h2.out hz'
          unfold putN
          rw [HPK.out]
          show Blk _ z' t' (if z = z' then _ else _)
          split
          · rename_i heq
            subst heq
            exact h5.set_ j _
          · rename_i hne
            exact h5.far (fun e => hne e.symm) _)
        have HC1 : Hid (Chg (NumsS g ps) w (w1.setCell ⟨z, j, none⟩ (.int .i64 (s.at k).num.1))) := Lib.hid ((HC.out.trans h2.out (fun x _ hx => .inl hx)).setCell (p := ⟨z, j, none⟩) (fun _ => .inr ⟨_, HMEM.out, rfl⟩) _)
        have HW1 : Hid (RdrAt (w1.setCell ⟨z, j, none⟩ (.int .i64 (s.at k).num.1)) g d (s.at (k + 1))) := Lib.hid (h1.out.chg2 (S := fun x => x = z) ((Chg.refl (fun x => x = z) w1).setCell (p := ⟨z, j, none⟩) (fun _ => rfl) _) (fun e => hzg e.symm) (fun hne e => hzd (RS.at_ne (k := k + 1) hne) e.symm))
        generalize (putN z ps s k cs)[j]! = u at hcz
        clear hb1
        go_wp2_with fail
        exact ⟨⟨k + 1, by omega, by go_num, HW1, HC1, HB1⟩, by simp [intOf]; omega⟩
    · obtain rfl : k = n := by omega
      have e1 : (k : Int) ≤ k := by omega
      go_wp2_with fail
      go_end0
      exact ⟨rfl, HW, HC, HB⟩
end Go.Proofs.YtmnapacibpnodaaGreat
end
section
open Go Go.RowKit
namespace Go.Proofs.YtmnapacibpnodaaGreat
section
variable {P : Program} {ops : Array Oper} {rest : List Oper} {a : Act} {w : World} {Q : Exit → Act → World → Prop} {dst : Option Tmp} {ty : TypeId} {pos : String} {after : Array Edge}
/-- a part of a block written, whole -/
theorem wpl_storepart {t : TypeId} {x y : Operand} {g k n : Nat} {vs : Array Value} (hx : a.eval x = .pointer (some ⟨g, k, none⟩)) (hy : a.eval y = .agg vs) {tb : TypeId} {cs : Array Value} (hb : HB w g tb cs) (ht : RowT P t n) (hn : vs.size = n) (hn0 : 0 < n) (hk : k + n ≤ cs.size) (hone : vs.all (·.oneCell') = true) {cs' : Array Value} (hcs : cs.toList.take k ++ vs.toList ++ cs.toList.drop (k + n) = cs'.toList)
    (h : ∀ w', Step (only g) w w' → HB w' g tb cs' → wpList P ops Q rest (a.put dst undef) w') : wpList P ops Q (⟨dst, .store t x y, ty, pos, after, none⟩ :: rest) a w := by
  have ho : Own w tb cs.size (some ⟨g, 0, none⟩) 1 1 cs.toList :=
    Own.of_blk hb.out (Nat.le_refl _) (by decide) (by simp) (by rw [Nat.one_mul, List.take_of_length_le (by simp)])
  obtain ⟨g', hA, h1, h2, h3⟩ := own_setCells ho (k := k) (cs := vs.toList) (m := n) (by simpa using hn) (by simpa using hk) hn0
  obtain rfl : g' = g := by injection hA with hA; injection hA with hA; exact hA.symm
  rw [hcs] at h2
  refine wpl_of_unit rfl (w' := w.setCells g' k vs.toList) ?_ (h _ ⟨⟨h3.os, h3.tape, h3.output, h3.size, fun x hx hn => h3.block x hx (fun ⟨ad, e, e2⟩ => hn (by injection e with e; subst e; exact e2.symm))⟩⟩ ⟨?_⟩)
  · show ((Instr.storeAt t (a.eval x) (a.eval y)) >>= fun _ => pure Next.skip).run P w = _
    rw [hx, hy, Sem.run_bind, run_storeAt_mid (P := P) w g' k t vs (by rw [hn]; exact h1) (by rw [hn]; exact ht.size) hone]
    rfl
  · have hl2 : cs'.size = cs.size := by
      have := congrArg List.length hcs
      simp at this
      omega
    rcases h2.form with ⟨hn, _⟩ | ⟨g3, cur, e, hb2, _, _, hsz, htk⟩
    · cases hn
    · injection e with e
      injection e with e
      subst e
      have : cur = cs' := by
        apply Array.ext'
        rw [List.take_of_length_le (by rw [Array.length_toList, hsz]; exact Nat.le_refl _)] at htk
        exact htk
      rw [← this]
      exact hb2
end
/-- the numbers of a time, and its digest, as they are taken -/
def tV (s : RS) : Nat := s.num.1
def tE (s : RS) : Nat := (s.at 1).num.1
def tS (s : RS) : Nat := (s.at 2).num.1
def tH (s : RS) : H32 := (s.at 3).hsh
def tR (s : RS) : RS := ((s.at 3).raw 32).2
end Go.Proofs.YtmnapacibpnodaaGreat
end
section
open Go Go.RowKit
namespace Go.Proofs.YtmnapacibpnodaaGreat
/-- what is left behind the kind -/
def kindS (kind : Nat) (b : List UInt8) : RS := if (⟨b, false⟩ : RS).num.1 = kind then (⟨b, false⟩ : RS).num.2 else RS.bad
theorem kindS_le (kind : Nat) (b : List UInt8) : (kindS kind b).b.length ≤ b.length := by
  unfold kindS
  split
  · exact RS.num_le ⟨b, false⟩
  · exact Nat.zero_le _
def wholeB (s : RS) : Bool := !s.e && decide (s.b = [])
def tOk (b : List UInt8) : Bool := wholeB (tR (kindS 2 b)) && timB (tV (kindS 2 b)) (tE (kindS 2 b)) (tS (kindS 2 b))
/-- what is decoded -/
def timD (b : List UInt8) : Array Value := (timL (tV (kindS 2 b)) (tE (kindS 2 b)) (tS (kindS 2 b)) (tH (kindS 2 b))).toArray
def DecT (b : List UInt8) (w : World) : Ending → World → Prop := fun e w' => Step nowhere w w' ∧ e = .returned (if tOk b then .tuple #[.agg (timD b), .int .i64 0] else .tuple #[.agg (timL 0 0 0 zeroH).toArray, .int .i64 2])
end Go.Proofs.YtmnapacibpnodaaGreat
end
section
open Go Go.RowKit
namespace Go.Proofs.YtmnapacibpnodaaGreat
theorem rBytes_calls (g d : Nat) (s : RS) (w : World) (h : RdrAt w g d s) (hl : s.b.length ≤ 140737488351232) :
    Calls Tryz.prog 91 #[.pointer (some ⟨g, 0, none⟩)] w fun e w' => ∃ A n c, e = .returned (.slice A n c) ∧ Hid (n = s.row.1.length) ∧
      Hid (Own w' 5 1 A n c (bs s.row.1)) ∧ Hid (RdrAt w' g d s.row.2) ∧ Hid (Chg (fun k => k = g) w w') ∧ Hid (∀ ad, A = some ad → w.heap.size ≤ ad.block) := by
  have H := Lib.hid h
  have HL := Lib.hid hl
  clear h hl
  go_enter Tryz.func91, Tryz.ntmps91
  go_wp2_with fail
  refine (Num_calls g d s _ H.out HL.out).mono ?_
  rintro e w1 ⟨rfl, h1, h2⟩
  go_wp2_with fail
  refine (Raw_calls g d s.num.2 s.num.1 _ h1.out (Nat.le_trans s.num_le HL.out)).mono ?_
  rintro e w2 ⟨A, n, c, rfl, h3, h4, h5, h6, h7⟩
  go_wp2_with fail
  go_ret
  exact ⟨A, n, c, rfl, h3, h4, h5, h2.out.trans h6.out (fun _ _ h => h), fun ad e => by have h8 := h7.out ad e; have h9 := h2.out.size; omega⟩
end Go.Proofs.YtmnapacibpnodaaGreat
end
section
open Go Go.RowKit
namespace Go.Proofs.YtmnapacibpnodaaGreat
end Go.Proofs.YtmnapacibpnodaaGreat
end
section
open Go Go.RowKit
namespace Go.Proofs.YtmnapacibpnodaaGreat
end Go.Proofs.YtmnapacibpnodaaGreat
end
