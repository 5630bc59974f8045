/- RdB, RdC, WtA, RdN, WtB, WzA, WzB, UnD, RoB, WtC, RdD, WvA, WvB, WyM, RoM, RoR -/
import Derived.Test.YthcleccofccbdaaGreatTbRdA
import Derived.Test.YthcleccofccbdaaGreatTbWsB
import Derived.Test.YthcleccofccbdaaGreatTbWuC
import Derived.Test.YthcleccofccbdaaGreatTbOcRfC
import Derived.Test.YthcleccofccbdaaGreatTbUnC
section
open Go Go.RowKit
namespace Go.Proofs.YthcleccofccbdaaGreat
theorem ofInt_i64 (a : Nat) (ha : a < 9223372036854775808) : (BitVec.ofInt 64 (a : Int)).toNat = a := by
  rw [BitVec.ofInt_natCast, BitVec.toNat_ofNat]; exact Nat.mod_eq_of_lt (by omega)
theorem i64_or_nat (a b : Nat) (ha : a < 9223372036854775808) (hb : b < 9223372036854775808) : bits .or .i64 (a : Int) (b : Int) = ((a ||| b : Nat) : Int) := by
  have hx : a ||| b < 2 ^ 63 := Nat.or_lt_two_pow (by omega) (by omega)
  show IntKind.i64.wrap ((BitVec.ofInt 64 (a : Int) ||| BitVec.ofInt 64 (b : Int)).toNat : Int) = _
  rw [BitVec.toNat_or, ofInt_i64 a ha, ofInt_i64 b hb, IntKind.wrap_i64]
  omega
theorem u8_clear128 (b : UInt8) : bits .andNot .u8 (b.toNat : Int) 128 = ((b.toNat % 128 : Nat) : Int) := by
  have := b.toNat_lt
  rw [show (128 : Int) = ((128 : Nat) : Int) from rfl, u8_andNot_nat _ _ (by omega) (by omega), nat_mask7]
theorem u8_and128 (b : UInt8) : bits .and .u8 (b.toNat : Int) 128 = ((b.toNat / 128 * 128 : Nat) : Int) := by
  have := b.toNat_lt
  rw [show (128 : Int) = ((128 : Nat) : Int) from rfl, u8_and_nat _ _ (by omega) (by omega)]
  have h := nat_bit 7 b.toNat
  rw [show (2 : Nat) ^ 7 = 128 from rfl] at h
  rw [h]
  congr 2
  omega
theorem or_shift (k acc lo : Nat) (hk : k < 9) (hacc : acc < 128 ^ k) (hlo : lo < 128) : bits .or .i64 (acc : Int) (wrap64 ((lo : Int) * 2 ^ (7 * k))) = ((acc + lo * 128 ^ k : Nat) : Int) ∧ acc + lo * 128 ^ k < 9223372036854775808 ∧ acc + lo * 128 ^ k < 128 ^ (k + 1) := by
  have e1 : (2 : Nat) ^ (7 * k) = 128 ^ k := by rw [Nat.pow_mul]
  have h1 : lo * 128 ^ k ≤ 127 * 128 ^ k := Nat.mul_le_mul_right _ (by omega)
  have h2 : 128 ^ k * 128 ≤ 9223372036854775808 := by
    have : (128 : Nat) ^ (k + 1) ≤ 128 ^ 9 := Nat.pow_le_pow_right (by decide) (by omega)
    rw [Nat.pow_succ] at this
    exact this
  have h3 : acc + lo * 128 ^ k < 128 ^ k * 128 := by omega
  have e2 : ((lo : Int) * 2 ^ (7 * k)) = ((lo * 128 ^ k : Nat) : Int) := by
    rw [← e1]
    simp
  refine ⟨?_, by omega, by rw [Nat.pow_succ]; exact h3⟩
  rw [e2, IntWalk.wrap64_in _ ⟨by omega, by omega⟩, i64_or_nat _ _ (by omega) (by omega)]
  congr 1
  rw [Nat.or_comm]
  have := nat_join (7 * k) (lo * 128 ^ k) acc (by rw [e1]; exact Nat.mul_mod_left _ _) (by rw [e1]; exact hacc)
  rw [this]
  omega
theorem parse_more {k acc : Nat} {b : UInt8} {r : List UInt8} (hk : k < 9) (h : 128 ≤ b.toNat) : parse k acc (b :: r) = parse (k + 1) (acc + b.toNat % 128 * 128 ^ k) r := by
  rw [parse, if_neg (by omega), if_pos h]
theorem parse_bad {k acc : Nat} {b : UInt8} {r : List UInt8} (hk : k < 9) (h : b.toNat < 128) (h2 : 4611686018427387904 < acc + b.toNat % 128 * 128 ^ k ∨ (b.toNat = 0 ∧ 0 < k)) : parse k acc (b :: r) = none := by
  rw [parse, if_neg (by omega), if_neg (by omega), if_pos h2]
theorem parse_end {k acc : Nat} {b : UInt8} {r : List UInt8} (hk : k < 9) (h : b.toNat < 128) (h2 : acc + b.toNat % 128 * 128 ^ k ≤ 4611686018427387904) (h3 : ¬ (b.toNat = 0 ∧ 0 < k)) : parse k acc (b :: r) = some (acc + b.toNat % 128 * 128 ^ k, r) := by
  rw [parse, if_neg (by omega), if_neg (by omega), if_neg (by omega)]
theorem parse_long {k acc : Nat} {r : List UInt8} (hk : 9 ≤ k) : parse k acc r = none := by
  rcases r with _ | ⟨b, r⟩
  · rw [parse]
  · rw [parse, if_pos hk]
set_option maxRecDepth 100000 in
set_option maxHeartbeats 800000 in
theorem Num_good (g d : Nat) (s : RS) (w : World) (h : RdrAt w g d s) (he : s.e = false) (hl : s.b.length ≤ 140737488351232) :
    Calls Tryz.prog 104 #[.pointer (some ⟨g, 0, none⟩)] w fun e w' => e = .returned (.int .i64 s.num.1) ∧ Hid (RdrAt w' g d s.num.2) ∧ Hid (Chg (fun k => k = g) w w') := by
  have H := Lib.hid h
  obtain ⟨⟨A, n, c, hn, hnc, hb, hr, hA⟩, hne, hok⟩ := h
  have hc0 : w.cell? ⟨g, 0, none⟩ = some (.slice A n c) := hb.cell 0
  have hf0 : w.frozen? ⟨g, 0, none⟩ = false := hb.frozen 0
  have hn9 : n ≤ 9223372036854775807 := by omega
  have HN := Lib.hid hn
  have HB := Lib.hid hb
  have HR := Lib.hid hr
  have HA := Lib.hid hA
  have HL := Lib.hid hl
  have HNUM : Hid (s.num = match parse 0 0 s.b with | some (n, r) => (n, ⟨r, false⟩) | none => (0, RS.bad)) := Lib.hid (by unfold RS.num; rw [he]; rfl)
  have het : (!s.e) = true := by rw [he]; rfl
  have HE := Lib.hid he
  clear hn hb hr hA hl he hok
  by_cases h9 : n ≤ 9
  · have f1 : (n : Int) ≤ 9 := by omega
    go_enter Tryz.func104, Tryz.ntmps104
    go_wp2_with fail
    refine (Good_calls g d s _ H.out).mono ?_
    rintro e w2 ⟨rfl, rfl⟩
    go_wp2_with fail
    go_quiet (fail)
    go_wp2_with fail
    go_loop [3, 21] (fun a t => ∃ k acc : Nat, k ≤ n ∧ t = .int .i64 k ∧ a = .int .i64 acc ∧ acc < 128 ^ k ∧ parse 0 0 s.b = parse k acc (s.b.drop k)) (fun _ t => n - (intOf t).toNat)
    case atStart => exact ⟨0, 0, Nat.zero_le _, rfl, rfl, by decide, rfl⟩
    case round =>
      obtain ⟨k, acc, hk, rfl, rfl, hacc, hpar⟩ := hrel
      by_cases hlt : k < n
      · have e1 : (k : Int) < n := by omega
        have hkl : k < s.b.length := by have := HN.out; omega
        obtain ⟨ad, b, rfl, hbk, hcb⟩ := HR.out.byte hkl
        have hk9 : k < 9 := by omega
        have hkn : k + 1 ≤ n := by omega
        have hkc : k + 1 ≤ c := by omega
        have hb8 := b.toNat_lt
        have q1 := u8_clear128 b
        have q2 := u8_and128 b
        obtain ⟨q3, hq, hq'⟩ := or_shift k acc (b.toNat % 128) hk9 hacc (by omega)
        have hdrop : s.b.drop k = b :: s.b.drop (k + 1) := by
          rw [List.drop_eq_getElem_cons hkl]
          rw [List.getElem?_eq_getElem hkl] at hbk
          injection hbk with hbk
          rw [hbk]
        rw [hdrop] at hpar
        obtain ⟨na, hna⟩ : ∃ na, na = acc + b.toNat % 128 * 128 ^ k := ⟨_, rfl⟩
        obtain ⟨lo, hlo⟩ : ∃ lo, lo = b.toNat % 128 := ⟨_, rfl⟩
        rw [← hlo] at q1 q3 hq hq' hna
        rw [← hna] at q3 hq hq'
        have HQ := Lib.hid hq'
        have HACC := Lib.hid hacc
        have hlo' : lo < 128 := by omega
        have HDROP := Lib.hid hdrop
        clear hacc hbk hkl hq' hdrop
        have hq9 : na ≤ 9223372036854775807 := by omega
        clear hq
        by_cases h128 : 128 ≤ b.toNat
        · have hp := parse_more (acc := acc) (r := s.b.drop (k + 1)) hk9 h128
          rw [← hlo, ← hna] at hp
          have HPAR := Lib.hid (hpar.trans hp)
          rw [show b.toNat / 128 * 128 = 128 by omega] at q2
          clear hpar hp hna hlo
          go_wp2_with fail
          exact ⟨⟨k + 1, na, by omega, by go_num, rfl, HQ.out, HPAR.out⟩, by simp [intOf]; omega⟩
        · rw [show b.toNat / 128 * 128 = 0 by omega] at q2
          by_cases hgt : 4611686018427387904 < na
          · have hp := parse_bad (b := b) (acc := acc) (r := s.b.drop (k + 1)) hk9 (by omega) (.inl (by rw [← hlo, ← hna]; exact hgt))
            have HPAR := Lib.hid (hpar.trans hp)
            have g1 : (4611686018427387904 : Int) < na := by omega
            clear hpar hp hna hlo hgt
            go_wp2_with fail
            refine (Bad_calls g d s _ (H.out.chg ((Chg.refl nowhere _).drewN nq) (fun h => h) (fun h => h))).mono ?_
            rintro e w4 ⟨rfl, h1, h2⟩
            go_wp2_with fail
            go_ret
            rw [HNUM.out, HPAR.out]
            exact ⟨rfl, h1, (((Chg.refl nowhere _).drewN nq).mono (fun _ _ h => h.elim)).trans h2.out (fun _ _ h => h)⟩
          · by_cases hz : b.toNat = 0 ∧ 0 < k
            · have hp := parse_bad (b := b) (acc := acc) (r := s.b.drop (k + 1)) hk9 (by omega) (.inr hz)
              have HPAR := Lib.hid (hpar.trans hp)
              have g1 : ¬ (4611686018427387904 : Int) < na := by omega
              have g2 : (b.toNat : Int) ≤ 0 := by omega
              have g3 : (0 : Int) < k := by omega
              clear hpar hp hna hlo hgt hz
              go_wp2_with fail
              refine (Bad_calls g d s _ (H.out.chg ((Chg.refl nowhere _).drewN nq) (fun h => h) (fun h => h))).mono ?_
              rintro e w4 ⟨rfl, h1, h2⟩
              go_wp2_with fail
              go_ret
              rw [HNUM.out, HPAR.out]
              exact ⟨rfl, h1, (((Chg.refl nowhere _).drewN nq).mono (fun _ _ h => h.elim)).trans h2.out (fun _ _ h => h)⟩
            · have hp := parse_end (b := b) (acc := acc) (r := s.b.drop (k + 1)) hk9 (by omega) (by rw [← hlo, ← hna]; omega) hz
              rw [← hlo, ← hna] at hp
              have HPAR := Lib.hid (hpar.trans hp)
              have g1 : ¬ (4611686018427387904 : Int) < na := by omega
              have hb2 := HB.out
              rw [HE.out] at hb2
              have HCUT := Lib.hid (fun A' c' => rdr_cut (A' := A') (c' := c') (k := k + 1) (hb2.drewN nq) (HR.out.drewN nq) HN.out hnc hkn HA.out hne)
              have HLO := Lib.hid hlo
              have HNA := Lib.hid hna
              clear hpar hp hna hlo hgt hb2
              by_cases hb0 : b.toNat = 0
              · have g2 : (b.toNat : Int) ≤ 0 := by omega
                obtain rfl : k = 0 := by omega
                obtain rfl : acc = 0 := by have := HACC.out; simpa using this
                obtain rfl : b = 0 := UInt8.toNat_inj.1 (by simpa using hb0)
                have q4 : bits .or .i64 0 0 = 0 := by decide
                have q5 : bits .andNot .u8 0 128 = 0 := by decide
                have q6 : bits .and .u8 0 128 = 0 := by decide
                obtain rfl : lo = 0 := by simpa using HLO.out
                obtain rfl : na = 0 := by simpa using HNA.out
                have hcb0 : w2.cell? (ad.add 0) = some (.int .u8 0) := hcb
                have hcb1 : w2.cell? ad = some (.int .u8 0) := by rw [← add_zero_spot ad]; exact hcb
                clear hcb
                clear hz g2 q1 q2 q3 hb0 g1
                go_wp2_with fail
                all_goals go_ret
                all_goals
                  rw [HNUM.out, HPAR.out]
                  refine ⟨rfl, HCUT.out _ _ ?_, Chg.setCell (S := fun k => k = g) ((Chg.refl _ _).drewN nq) (p := ⟨g, 0, none⟩) (fun _ => rfl) _⟩
                  first | exact .inl ⟨rfl, by omega, rfl⟩ | exact .inr ⟨rfl, rfl⟩
              · have g2 : (1 : Int) ≤ b.toNat := by omega
                clear hz
                go_wp2_with fail
                all_goals go_ret
                all_goals
                  rw [HNUM.out, HPAR.out]
                  refine ⟨rfl, HCUT.out _ _ ?_, Chg.setCell (S := fun k => k = g) ((Chg.refl _ _).drewN nq) (p := ⟨g, 0, none⟩) (fun _ => rfl) _⟩
                  first | exact .inl ⟨rfl, by omega, rfl⟩ | exact .inr ⟨rfl, rfl⟩
      · have e1 : (n : Int) ≤ k := by omega
        have hkL : k = n := by omega
        have HPAR : Hid (parse 0 0 s.b = none) := by
          show _ = _
          rw [hpar]
          first
            | exact parse_long (by omega)
            | (rw [List.drop_eq_nil_of_le (by have := HN.out; omega), parse])
        clear hpar
        go_wp2_with fail
        refine (Bad_calls g d s _ (H.out.chg ((Chg.refl nowhere _).drewN nq) (fun h => h) (fun h => h))).mono ?_
        rintro e w4 ⟨rfl, h1, h2⟩
        go_wp2_with fail
        go_ret
        rw [HNUM.out, HPAR.out]
        exact ⟨rfl, h1, (((Chg.refl nowhere _).drewN nq).mono (fun _ _ h => h.elim)).trans h2.out (fun _ _ h => h)⟩
  · have f1 : (9 : Int) < n := by omega
    go_enter Tryz.func104, Tryz.ntmps104
    go_wp2_with fail
    refine (Good_calls g d s _ H.out).mono ?_
    rintro e w2 ⟨rfl, rfl⟩
    go_wp2_with fail
    go_quiet (fail)
    go_wp2_with fail
    go_loop [3, 21] (fun a t => ∃ k acc : Nat, k ≤ 9 ∧ t = .int .i64 k ∧ a = .int .i64 acc ∧ acc < 128 ^ k ∧ parse 0 0 s.b = parse k acc (s.b.drop k)) (fun _ t => 9 - (intOf t).toNat)
    case atStart => exact ⟨0, 0, Nat.zero_le _, rfl, rfl, by decide, rfl⟩
    case round =>
      obtain ⟨k, acc, hk, rfl, rfl, hacc, hpar⟩ := hrel
      by_cases hlt : k < 9
      · have e1 : (k : Int) < 9 := by omega
        have hkl : k < s.b.length := by have := HN.out; omega
        obtain ⟨ad, b, rfl, hbk, hcb⟩ := HR.out.byte hkl
        have hk9 : k < 9 := by omega
        have hkn : k + 1 ≤ n := by omega
        have hkc : k + 1 ≤ c := by omega
        have hb8 := b.toNat_lt
        have q1 := u8_clear128 b
        have q2 := u8_and128 b
        obtain ⟨q3, hq, hq'⟩ := or_shift k acc (b.toNat % 128) hk9 hacc (by omega)
        have hdrop : s.b.drop k = b :: s.b.drop (k + 1) := by
          rw [List.drop_eq_getElem_cons hkl]
          rw [List.getElem?_eq_getElem hkl] at hbk
          injection hbk with hbk
          rw [hbk]
        rw [hdrop] at hpar
        obtain ⟨na, hna⟩ : ∃ na, na = acc + b.toNat % 128 * 128 ^ k := ⟨_, rfl⟩
        obtain ⟨lo, hlo⟩ : ∃ lo, lo = b.toNat % 128 := ⟨_, rfl⟩
        rw [← hlo] at q1 q3 hq hq' hna
        rw [← hna] at q3 hq hq'
        have HQ := Lib.hid hq'
        have HACC := Lib.hid hacc
        have hlo' : lo < 128 := by omega
        have HDROP := Lib.hid hdrop
        clear hacc hbk hkl hq' hdrop
        have hq9 : na ≤ 9223372036854775807 := by omega
        clear hq
        by_cases h128 : 128 ≤ b.toNat
        · have hp := parse_more (acc := acc) (r := s.b.drop (k + 1)) hk9 h128
          rw [← hlo, ← hna] at hp
          have HPAR := Lib.hid (hpar.trans hp)
          rw [show b.toNat / 128 * 128 = 128 by omega] at q2
          clear hpar hp hna hlo
          go_wp2_with fail
          exact ⟨⟨k + 1, na, by omega, by go_num, rfl, HQ.out, HPAR.out⟩, by simp [intOf]; omega⟩
        · rw [show b.toNat / 128 * 128 = 0 by omega] at q2
          by_cases hgt : 4611686018427387904 < na
          · have hp := parse_bad (b := b) (acc := acc) (r := s.b.drop (k + 1)) hk9 (by omega) (.inl (by rw [← hlo, ← hna]; exact hgt))
            have HPAR := Lib.hid (hpar.trans hp)
            have g1 : (4611686018427387904 : Int) < na := by omega
            clear hpar hp hna hlo hgt
            go_wp2_with fail
            refine (Bad_calls g d s _ (H.out.chg ((Chg.refl nowhere _).drewN nq) (fun h => h) (fun h => h))).mono ?_
            rintro e w4 ⟨rfl, h1, h2⟩
            go_wp2_with fail
            go_ret
            rw [HNUM.out, HPAR.out]
            exact ⟨rfl, h1, (((Chg.refl nowhere _).drewN nq).mono (fun _ _ h => h.elim)).trans h2.out (fun _ _ h => h)⟩
          · by_cases hz : b.toNat = 0 ∧ 0 < k
            · have hp := parse_bad (b := b) (acc := acc) (r := s.b.drop (k + 1)) hk9 (by omega) (.inr hz)
              have HPAR := Lib.hid (hpar.trans hp)
              have g1 : ¬ (4611686018427387904 : Int) < na := by omega
              have g2 : (b.toNat : Int) ≤ 0 := by omega
              have g3 : (0 : Int) < k := by omega
              clear hpar hp hna hlo hgt hz
              go_wp2_with fail
              refine (Bad_calls g d s _ (H.out.chg ((Chg.refl nowhere _).drewN nq) (fun h => h) (fun h => h))).mono ?_
              rintro e w4 ⟨rfl, h1, h2⟩
              go_wp2_with fail
              go_ret
              rw [HNUM.out, HPAR.out]
              exact ⟨rfl, h1, (((Chg.refl nowhere _).drewN nq).mono (fun _ _ h => h.elim)).trans h2.out (fun _ _ h => h)⟩
            · have hp := parse_end (b := b) (acc := acc) (r := s.b.drop (k + 1)) hk9 (by omega) (by rw [← hlo, ← hna]; omega) hz
              rw [← hlo, ← hna] at hp
              have HPAR := Lib.hid (hpar.trans hp)
              have g1 : ¬ (4611686018427387904 : Int) < na := by omega
              have hb2 := HB.out
              rw [HE.out] at hb2
              have HCUT := Lib.hid (fun A' c' => rdr_cut (A' := A') (c' := c') (k := k + 1) (hb2.drewN nq) (HR.out.drewN nq) HN.out hnc hkn HA.out hne)
              have HLO := Lib.hid hlo
              have HNA := Lib.hid hna
              clear hpar hp hna hlo hgt hb2
              by_cases hb0 : b.toNat = 0
              · have g2 : (b.toNat : Int) ≤ 0 := by omega
                obtain rfl : k = 0 := by omega
                obtain rfl : acc = 0 := by have := HACC.out; simpa using this
                obtain rfl : b = 0 := UInt8.toNat_inj.1 (by simpa using hb0)
                have q4 : bits .or .i64 0 0 = 0 := by decide
                have q5 : bits .andNot .u8 0 128 = 0 := by decide
                have q6 : bits .and .u8 0 128 = 0 := by decide
                obtain rfl : lo = 0 := by simpa using HLO.out
                obtain rfl : na = 0 := by simpa using HNA.out
                have hcb0 : w2.cell? (ad.add 0) = some (.int .u8 0) := hcb
                have hcb1 : w2.cell? ad = some (.int .u8 0) := by rw [← add_zero_spot ad]; exact hcb
                clear hcb
                clear hz g2 q1 q2 q3 hb0 g1
                go_wp2_with fail
                all_goals go_ret
                all_goals
                  rw [HNUM.out, HPAR.out]
                  refine ⟨rfl, HCUT.out _ _ ?_, Chg.setCell (S := fun k => k = g) ((Chg.refl _ _).drewN nq) (p := ⟨g, 0, none⟩) (fun _ => rfl) _⟩
                  first | exact .inl ⟨rfl, by omega, rfl⟩ | exact .inr ⟨rfl, rfl⟩
              · have g2 : (1 : Int) ≤ b.toNat := by omega
                clear hz
                go_wp2_with fail
                all_goals go_ret
                all_goals
                  rw [HNUM.out, HPAR.out]
                  refine ⟨rfl, HCUT.out _ _ ?_, Chg.setCell (S := fun k => k = g) ((Chg.refl _ _).drewN nq) (p := ⟨g, 0, none⟩) (fun _ => rfl) _⟩
                  first | exact .inl ⟨rfl, by omega, rfl⟩ | exact .inr ⟨rfl, rfl⟩
      · have e1 : (9 : Int) ≤ k := by omega
        have hkL : k = 9 := by omega
        have HPAR : Hid (parse 0 0 s.b = none) := by
          show _ = _
          rw [hpar]
          first
            | exact parse_long (by omega)
            | (rw [List.drop_eq_nil_of_le (by have := HN.out; omega), parse])
        clear hpar
        go_wp2_with fail
        refine (Bad_calls g d s _ (H.out.chg ((Chg.refl nowhere _).drewN nq) (fun h => h) (fun h => h))).mono ?_
        rintro e w4 ⟨rfl, h1, h2⟩
        go_wp2_with fail
        go_ret
        rw [HNUM.out, HPAR.out]
        exact ⟨rfl, h1, (((Chg.refl nowhere _).drewN nq).mono (fun _ _ h => h.elim)).trans h2.out (fun _ _ h => h)⟩
end Go.Proofs.YthcleccofccbdaaGreat
end
section
open Go Go.RowKit
namespace Go.Proofs.YthcleccofccbdaaGreat
theorem Num_calls (g d : Nat) (s : RS) (w : World) (h : RdrAt w g d s) (hl : s.b.length ≤ 140737488351232) :
    Calls Tryz.prog 104 #[.pointer (some ⟨g, 0, none⟩)] w fun e w' => e = .returned (.int .i64 s.num.1) ∧ Hid (RdrAt w' g d s.num.2) ∧ Hid (Chg (fun k => k = g) w w') := by
  rcases he : s.e with _ | _
  · exact Num_good g d s w h he hl
  · have hs := RS.eta_bad h.ok he
    subst hs
    have hnum : RS.bad.num = (0, RS.bad) := rfl
    rw [hnum]
    have H := Lib.hid h
    clear h hnum he
    have hbt : (!RS.bad.e) = false := rfl
    go_enter Tryz.func104, Tryz.ntmps104
    go_wp2_with fail
    refine (Good_calls g d RS.bad _ H.out).mono ?_
    rintro e w2 ⟨rfl, rfl⟩
    go_wp2_with fail
    go_ret
    exact ⟨rfl, H, Chg.refl _ _⟩
theorem RS.num_le (s : RS) : s.num.2.b.length ≤ s.b.length := by
  have key : ∀ (l : List UInt8) i acc n r, parse i acc l = some (n, r) → r.length ≤ l.length := by
    intro l
    induction l with
    | nil => intro i acc n r h; rw [parse] at h; cases h
    | cons b l ih =>
      intro i acc n r h
      rw [parse] at h
      split at h
      · cases h
      · split at h
        · have := ih _ _ _ _ h; simp; omega
        · split at h
          · cases h
          · injection h with h; injection h with h1 h2; subst h2; simp
  unfold RS.num
  split
  · exact Nat.le_refl _
  · split
    · rename_i n r h
      exact key _ _ _ _ _ h
    · simp [RS.bad]
end Go.Proofs.YthcleccofccbdaaGreat
end
section
open Go Go.RowKit
namespace Go.Proofs.YthcleccofccbdaaGreat
instance iWtA_1 : ZeroT Tryz.prog 47 (u8s zeroH.l) := ⟨.agg (u8s zeroH.l), fun _ => by kernel_rfl, rfl⟩
def RS.hsh (s : RS) : H32 := if h : (s.raw 32).1.length = 32 then ⟨(s.raw 32).1, h⟩ else zeroH
theorem RS.raw_c (s : RS) : (s.raw 32).1.length = 32 ∨ (s.raw 32).1 = [] := by
  unfold RS.raw
  split
  · exact .inr rfl
  · rename_i h
    refine .inl ?_
    show (s.b.take (32 : Int).toNat).length = 32
    rw [List.length_take]
    have : ¬ (s.b.length : Int) < 32 := fun h2 => h (.inr (.inr h2))
    omega
theorem RS.raw_l (s : RS) (i : Int) : (s.raw i).2.b.length ≤ s.b.length := by
  unfold RS.raw
  split
  · exact Nat.zero_le _
  · show (s.b.drop i.toNat).length ≤ _
    rw [List.length_drop]; omega
theorem RS.hsh_copy (s : RS) (m : Nat) (hm : m = (s.raw 32).1.length) : zeroH.l.take 0 ++ (s.raw 32).1 ++ zeroH.l.drop (0 + m) = s.hsh.l := by
  subst hm
  rcases s.raw_c with h | h
  · rw [RS.hsh, dif_pos h, h]
    show [] ++ (s.raw 32).1 ++ zeroH.l.drop 32 = _
    rw [show zeroH.l.drop 32 = [] from rfl, List.append_nil]
    rfl
  · rw [RS.hsh, dif_neg (by rw [h]; decide), h]
    rfl
section
variable {P : Program} {ops : Array Oper} {a : Act} {w : World} {dst : Option Tmp} {ty : TypeId} {pos : String} {after : Array Edge} {gd : Option (Nat × Bool)}
/-- an array as a slice -/
theorem ev_sl_arr0 {t e : TypeId} {x : Operand} {g m : Nat} (hx : a.eval x = .pointer (some ⟨g, 0, none⟩)) (hu : P.underlying t = some (.array m e)) (hs : (P.info? e).map (·.size) = some 1) :
    (execOp a.eval ⟨dst, .slice t x none none none, ty, pos, after, gd⟩).run P w = .ok (.value (.slice (some ⟨g, 0, none⟩) m m)) w := by
  show ((Instr.sliceAt t (a.eval x) none none none) >>= fun v => pure (Next.value v)).run P w = _
  rw [hx]
  cases hq : P.info? e with
  | none => rw [hq] at hs; simp at hs
  | some i => simp [Instr.sliceAt, run_underlying hu, Instr.sureAddr, Instr.sliceBounds, sizeOf, typeInfo, hq, add_zero_spot]
end
def gz2 (g z : Nat) : Nat → Prop := fun x => x = g ∨ x = z
instance (w : World) (g z : Nat) : Sub w (only g) (gz2 g z) := ⟨fun _ _ h => .inl h⟩
instance (w : World) (g z : Nat) : Sub w (only z) (gz2 g z) := ⟨fun _ _ h => .inr h⟩
instance (w : World) (g z : Nat) : Into w (only g) (gz2 g z) := ⟨fun _ _ h => .inl h⟩
instance (w : World) (g z : Nat) : Into w (only z) (gz2 g z) := ⟨fun _ _ h => .inr h⟩
set_option maxRecDepth 100000 in
set_option maxHeartbeats 1600000 in
theorem takeHash_calls {g d : Nat} {s : RS} {w : World} (hw : RdrAt w g d s) (hl : s.b.length ≤ 140737488351232) :
    Calls Tryz.prog 125 #[.pointer (some ⟨g, 0, none⟩)] w fun e w' => e = .returned (.agg (u8s s.hsh.l)) ∧ Step (only g) w w' ∧ RdrAt w' g d (s.raw 32).2 := by
  have HW0 := Lib.hid hw
  have HL := Lib.hid hl
  have hgl := hw.lt
  have hdl := hw.dlt
  clear hw hl
  go_enter Tryz.func125, Tryz.ntmps125
  go_wp2_with (first | ((with_reducible apply (wpl_alloc (dst := some 2))); intro zo wzo _ _ _) | ((with_reducible apply (wpl_alloc (dst := some 3))); intro zh wzh _ _ _))
  have hzo : w.heap.size ≤ zo := Nat.le_of_eq (inferInstance : Born w zo).eq.symm
  have hzh : w.heap.size ≤ zh := by
    have e1 := (inferInstance : Born wzo zh).eq
    have e2 := (inferInstance : SzLe w wzo).out
    omega
  have hb0 : HB wzh zh 47 (u8s zeroH.l) := inferInstance
  have o1 : OffB (only g) zh := ⟨fun e => by have e' : zh = g := e; omega⟩
  have o2 : OffB (only g) zo := ⟨fun e => by have e' : zo = g := e; omega⟩
  have hq0 : zeroH.l.length = 32 := rfl
  refine wp_region_N ((gz2 g zh)) (by kernel_rfl) (fun wd _ _ => ?_)
  refine' takeH (i := 0) (v := _) rfl (by kernel_rfl) (by kernel_rfl) (by kernel_rfl) (fun _ _ _ h => h) (yields_of (by rfl) (fun w' _ => ?_)) inferInstance ?_
  rotate_left
  · ((with_reducible apply ev_sl_arr0); (exact rfl); (exact Tryz.underlying47); (kernel_rfl))
  try simp only [Act.put, sA]; try simp only [sB, sC]
  refine' takeH (i := 1) (v := _) rfl (by kernel_rfl) (by kernel_rfl) (by kernel_rfl) (fun _ _ _ h => h) (yields_of (by rfl) (fun w' _ => ?_)) inferInstance ?_
  rotate_left
  · (go_simp; try with_reducible rfl)
  try simp only [Act.put, sA]; try simp only [sB, sC]
  refine goH (i := 2) (by kernel_rfl) rfl (fun K_ hK_ => ?_)
  go_simp
  refine (Raw_calls g d s 32 wd (HW0.out.chg (stepN (w0 := w) (w := wd)).chg (fun h => h) (fun h => h)) (by have := HL.out; omega)).mono ?_
  rintro e w5 ⟨A5, n5, c5, rfl, hn5, ho5, h5, cc5, hA5⟩
  have st5 : Step (only g) wd w5 := ⟨cc5.out⟩
  have hr5 : HR w5 A5 (bs (s.raw 32).1) := ⟨ho5.out.rd⟩
  have hle5 : n5 ≤ 32 := by
    have := hn5.out
    rcases s.raw_c with h | h
    · omega
    · rw [h] at this; simp at this; omega
  have hfit5 : 0 + n5 ≤ zeroH.l.length := by omega
  refine hK_.out _ _ inferInstance (fun _ => ?_)
  clear hK_ K_
  try simp only [Act.put, sA]; try simp only [sB, sC]
  refine goH (i := 3) (by kernel_rfl) rfl (fun K_ hK_ => ?_)
  rw [if_pos (by kernel_rfl)]
  refine wpr_of_list ?_
  (first | ((with_reducible apply wpl_copy); (exact Tryz.underlying26); (kernel_rfl); (exact rfl); (exact rfl); infer_instance; (exact hr5); (exact hn5.out.symm); (exact hle5); (exact hfit5); intro wc _ hbc) | ((with_reducible apply wpl_copy); (exact Tryz.underlying26); (kernel_rfl); (exact rfl); (exact rfl); infer_instance; infer_instance; (first | (with_reducible assumption) | (with_reducible exact H32.len _) | (focus (simp; done))); (first | (with_reducible assumption) | omega); (first | (with_reducible assumption) | omega | (focus (simp; done)) | (focus (simp; omega; done)) | decide); intro wc _ _))
  refine wpList_nil ?_
  unfold onlyN
  refine hK_.out _ _ inferInstance (fun _ => ?_)
  clear hK_ K_
  try simp only [Act.put, sA]; try simp only [sB, sC]
  refine wpAnyH_done (by kernel_rfl) ?_ _
  have hnx := s.hsh_copy n5 hn5.out
  rw [hnx] at hbc
  have hH : HB wc zh 47 (u8s s.hsh.l) := hbc
  have h9 : RdrAt wc g d (s.raw 32).2 := h5.out.chg2 (inferInstance : Step (only zh) w5 wc).chg (fun e => by have e' : g = zh := e; omega) (fun hne e => by
    have e' : d = zh := e
    have := hdl (fun h0 => hne (List.eq_nil_of_length_eq_zero (by have := s.raw_l 32; rw [h0] at this; simpa using this)))
    omega)
  have HR9 := Lib.hid h9
  have hlen9 : (u8s s.hsh.l).size = 32 := H32.size _
  clear h9 hnx h5
  go_wp2_with (first | ((with_reducible apply wpl_loadrow); (exact rfl); infer_instance; infer_instance; (first | (with_reducible assumption) | (with_reducible exact H32.size _) | kernel_rfl)) | ((with_reducible apply wpl_storerow); (exact rfl); (exact rfl); infer_instance; infer_instance; (first | (with_reducible assumption) | (with_reducible exact H32.size _) | kernel_rfl); (first | (with_reducible assumption) | (with_reducible exact H32.size _) | kernel_rfl); (first | (with_reducible exact u8s_one _) | (with_reducible assumption) | kernel_rfl); intro ws _ _))
  refine ret_row rfl rfl (n := 32) (H32.size _) rfl ⟨rfl, stepC, ?_⟩
  exact HR9.out.chg2 (inferInstance : Ch (only zo) wc ws).out (fun e => by have e' : g = zo := e; omega) (fun hne e => by
    have e' : d = zo := e
    have := hdl (fun h0 => hne (List.eq_nil_of_length_eq_zero (by have := s.raw_l 32; rw [h0] at this; simpa using this)))
    omega)
end Go.Proofs.YthcleccofccbdaaGreat
end
section
open Go Go.RowKit
namespace Go.Proofs.YthcleccofccbdaaGreat
/-- the reader behind so many numbers -/
def RS.at (s : RS) : Nat → RS
  | 0 => s
  | k + 1 => (s.at k).num.2
theorem RS.at_le (s : RS) (k : Nat) : (s.at k).b.length ≤ s.b.length := by
  induction k with
  | zero => exact Nat.le_refl _
  | succ k ih => exact Nat.le_trans (RS.num_le _) ih
theorem RS.at_ne {s : RS} {k : Nat} (h : (s.at k).b ≠ []) : s.b ≠ [] := by
  intro h0
  have h1 := s.at_le k
  rw [h0] at h1
  exact h (List.eq_nil_of_length_eq_zero (by simpa using h1))
def ptrs (ps : List (Option Addr)) : List Value := ps.map .pointer
/-- what a block holds when k numbers have been laid into their places -/
def putN (z : Nat) (ps : List (Option Addr)) (s : RS) : Nat → Array Value → Array Value
  | 0, cs => cs
  | k + 1, cs => match ps[k]? with
    | some (some ad) => if ad.block = z then (putN z ps s k cs).setIfInBounds ad.off (.int .i64 (s.at k).num.1) else putN z ps s k cs
    | _ => putN z ps s k cs
theorem putN_size (z : Nat) (ps : List (Option Addr)) (s : RS) (k : Nat) (cs : Array Value) : (putN z ps s k cs).size = cs.size := by
  induction k with
  | zero => rfl
  | succ k ih =>
    unfold putN
    split
    · split
      · rw [Array.size_setIfInBounds, ih]
      · exact ih
    · exact ih
def NumsS (g : Nat) (ps : List (Option Addr)) : Nat → Prop := fun x => x = g ∨ ∃ ad, some ad ∈ ps ∧ ad.block = x
set_option maxRecDepth 100000 in
set_option maxHeartbeats 800000 in
theorem rNums_calls (g d : Nat) (s : RS) (A : Option Addr) (n c : Nat) (ps : List (Option Addr)) (w : World) (h : RdrAt w g d s) (hl : s.b.length ≤ 140737488351232) (hr : Rd w A (ptrs ps)) (hn : ps.length = n) (hmax : n ≤ 1000) (hA : Apart (NumsS g ps) A (ptrs ps))
    (hps : ∀ ad, some ad ∈ ps → ∃ z k t cs, ad = ⟨z, k, none⟩ ∧ Blk w z t cs ∧ k < cs.size ∧ z ≠ g ∧ (s.b ≠ [] → z ≠ d)) :
    Calls Tryz.prog 108 #[.pointer (some ⟨g, 0, none⟩), .slice A n c] w fun e w' => e = .returned (.tuple #[]) ∧ Hid (RdrAt w' g d (s.at n)) ∧ Hid (Chg (NumsS g ps) w w') ∧
      Hid (∀ z t cs, z ≠ g → Blk w z t cs → Blk w' z t (putN z ps s n cs)) := by
  have H := Lib.hid h
  have HL := Lib.hid hl
  have HR := Lib.hid hr
  have HN := Lib.hid hn
  have HAP := Lib.hid hA
  have HPS := Lib.hid hps
  have hn9 : n ≤ 9223372036854775807 := by omega
  clear h hl hr hn hA hps
  go_enter Tryz.func108, Tryz.ntmps108
  go_wp2_with fail
  go_loopw [9] (fun t wr => ∃ k : Nat, k ≤ n ∧ t = .int .i64 k ∧ Hid (RdrAt wr g d (s.at k)) ∧ Hid (Chg (NumsS g ps) w wr) ∧ Hid (∀ z t cs, z ≠ g → Blk w z t cs → Blk wr z t (putN z ps s k cs))) (fun t _ => n - (intOf t).toNat)
  case atStart => exact ⟨0, Nat.zero_le _, rfl, H, Lib.hid (Chg.refl _ _), Lib.hid (fun _ _ _ _ h => h)⟩
  case round =>
    obtain ⟨k, hk, rfl, HW, HC, HB⟩ := hrel
    by_cases hlt : k < n
    · have e1 : (k : Int) < n := by omega
      have hkl : k < ps.length := by have := HN.out; omega
      obtain ⟨p, hp⟩ : ∃ p, ps[k] = p := ⟨_, rfl⟩
      have hpk : ps[k]? = some p := by rw [List.getElem?_eq_getElem hkl, hp]
      have hmem : p ∈ ps := by rw [← hp]; exact List.getElem_mem hkl
      obtain ⟨ad, rfl, hc⟩ := (HR.out.chg HC.out HAP.out) k (.pointer p) (by simp [ptrs, hpk])
      have HPK := Lib.hid hpk
      have HMEM := Lib.hid hmem
      clear hp hpk hmem hkl
      rcases p with _ | pd
      · go_wp2_with fail
        refine (Num_calls g d (s.at k) _ HW.out (Nat.le_trans (s.at_le k) HL.out)).mono ?_
        rintro e w1 ⟨rfl, h1, h2⟩
        have HB1 : Hid (∀ z t cs, z ≠ g → Blk w z t cs → Blk w1 z t (putN z ps s (k + 1) cs)) := Lib.hid (fun z t cs hz hb => by
          have := (HB.out z t cs hz hb).chg h2.out hz
          unfold putN
          rw [HPK.out]
          exact this)
        go_wp2_with fail
        exact ⟨⟨k + 1, by omega, by go_num, h1, Lib.hid (HC.out.trans h2.out (fun x _ hx => .inl hx)), HB1⟩, by simp [intOf]; omega⟩
      · obtain ⟨z, j, t, cs, rfl, hb, hj, hzg, hzd⟩ := HPS.out _ HMEM.out
        have HBB := Lib.hid hb
        have HJ := Lib.hid hj
        clear hb hj
        go_wp2_with fail
        refine (Num_calls g d (s.at k) _ HW.out (Nat.le_trans (s.at_le k) HL.out)).mono ?_
        rintro e w1 ⟨rfl, h1, h2⟩
        have hb1 := (HB.out z t cs hzg HBB.out).chg h2.out hzg
        have hcz : w1.cell? ⟨z, j, none⟩ = some (putN z ps s k cs)[j]! := by
          rw [hb1.cell j, getElem!_pos _ j (by rw [putN_size]; exact HJ.out)]
          exact Array.getElem?_eq_getElem _
        have hfz : w1.frozen? ⟨z, j, none⟩ = false := hb1.frozen j
        have HB1 : Hid (∀ z' t' cs', z' ≠ g → Blk w z' t' cs' → Blk (w1.setCell ⟨z, j, none⟩ (.int .i64 (s.at k).num.1)) z' t' (putN z' ps s (k + 1) cs')) := Lib.hid (fun z' t' cs' hz' hb' => by
          have h5 := (HB.out z' t' cs' hz' hb').chg h2.out hz'
          unfold putN
          rw [HPK.out]
          show Blk _ z' t' (if z = z' then _ else _)
          split
          · rename_i heq
            subst heq
            exact h5.set_ j _
          · rename_i hne
            exact h5.far (fun e => hne e.symm) _)
        have HC1 : Hid (Chg (NumsS g ps) w (w1.setCell ⟨z, j, none⟩ (.int .i64 (s.at k).num.1))) := Lib.hid ((HC.out.trans h2.out (fun x _ hx => .inl hx)).setCell (p := ⟨z, j, none⟩) (fun _ => .inr ⟨_, HMEM.out, rfl⟩) _)
        have HW1 : Hid (RdrAt (w1.setCell ⟨z, j, none⟩ (.int .i64 (s.at k).num.1)) g d (s.at (k + 1))) := Lib.hid (h1.out.chg2 (S := fun x => x = z) ((Chg.refl (fun x => x = z) w1).setCell (p := ⟨z, j, none⟩) (fun _ => rfl) _) (fun e => hzg e.symm) (fun hne e => hzd (RS.at_ne (k := k + 1) hne) e.symm))
        generalize (putN z ps s k cs)[j]! = u at hcz
        clear hb1
        go_wp2_with fail
        exact ⟨⟨k + 1, by omega, by go_num, HW1, HC1, HB1⟩, by simp [intOf]; omega⟩
    · obtain rfl : k = n := by omega
      have e1 : (k : Int) ≤ k := by omega
      go_wp2_with fail
      go_end0
      exact ⟨rfl, HW, HC, HB⟩
end Go.Proofs.YthcleccofccbdaaGreat
end
section
open Go Go.RowKit
namespace Go.Proofs.YthcleccofccbdaaGreat
instance iWtB_1 : ZeroT Tryz.prog 49 (timL 0 0 0 zeroH).toArray := ⟨.agg (timL 0 0 0 zeroH).toArray, fun _ => by kernel_rfl, rfl⟩
section
variable {P : Program} {ops : Array Oper} {rest : List Oper} {a : Act} {w : World} {Q : Exit → Act → World → Prop} {dst : Option Tmp} {ty : TypeId} {pos : String} {after : Array Edge}
/-- a part of a block written, whole -/
theorem wpl_storepart {t : TypeId} {x y : Operand} {g k n : Nat} {vs : Array Value} (hx : a.eval x = .pointer (some ⟨g, k, none⟩)) (hy : a.eval y = .agg vs) {tb : TypeId} {cs : Array Value} (hb : HB w g tb cs) (ht : RowT P t n) (hn : vs.size = n) (hn0 : 0 < n) (hk : k + n ≤ cs.size) (hone : vs.all (·.oneCell') = true) {cs' : Array Value} (hcs : cs.toList.take k ++ vs.toList ++ cs.toList.drop (k + n) = cs'.toList)
    (h : ∀ w', Step (only g) w w' → HB w' g tb cs' → wpList P ops Q rest (a.put dst undef) w') : wpList P ops Q (⟨dst, .store t x y, ty, pos, after, none⟩ :: rest) a w := by
  have ho : Own w tb cs.size (some ⟨g, 0, none⟩) 1 1 cs.toList :=
    Own.of_blk hb.out (Nat.le_refl _) (by decide) (by simp) (by rw [Nat.one_mul, List.take_of_length_le (by simp)])
  obtain ⟨g', hA, h1, h2, h3⟩ := own_setCells ho (k := k) (cs := vs.toList) (m := n) (by simpa using hn) (by simpa using hk) hn0
  obtain rfl : g' = g := by injection hA with hA; injection hA with hA; exact hA.symm
  rw [hcs] at h2
  refine wpl_of_unit rfl (w' := w.setCells g' k vs.toList) ?_ (h _ ⟨⟨h3.os, h3.tape, h3.output, h3.size, fun x hx hn => h3.block x hx (fun ⟨ad, e, e2⟩ => hn (by injection e with e; subst e; exact e2.symm))⟩⟩ ⟨?_⟩)
  · show ((Instr.storeAt t (a.eval x) (a.eval y)) >>= fun _ => pure Next.skip).run P w = _
    rw [hx, hy, Sem.run_bind, run_storeAt_mid (P := P) w g' k t vs (by rw [hn]; exact h1) (by rw [hn]; exact ht.size) hone]
    rfl
  · have hl2 : cs'.size = cs.size := by
      have := congrArg List.length hcs
      simp at this
      omega
    rcases h2.form with ⟨hn, _⟩ | ⟨g3, cur, e, hb2, _, _, hsz, htk⟩
    · cases hn
    · injection e with e
      injection e with e
      subst e
      have : cur = cs' := by
        apply Array.ext'
        rw [List.take_of_length_le (by rw [Array.length_toList, hsz]; exact Nat.le_refl _)] at htk
        exact htk
      rw [← this]
      exact hb2
end
/-- the numbers of a time, and its digest, as they are taken -/
def tV (s : RS) : Nat := s.num.1
def tE (s : RS) : Nat := (s.at 1).num.1
def tS (s : RS) : Nat := (s.at 2).num.1
def tH (s : RS) : H32 := (s.at 3).hsh
def tR (s : RS) : RS := ((s.at 3).raw 32).2
end Go.Proofs.YthcleccofccbdaaGreat
end
section
open Go Go.RowKit
namespace Go.Proofs.YthcleccofccbdaaGreat
section
variable {P : Program} {ops : Array Oper} {a : Act} {w : World} {dst : Option Tmp} {ty : TypeId} {pos : String} {after : Array Edge} {gd : Option (Nat × Bool)}
end
theorem fresh_hoW {w0 w : World} {A : Option Addr} {n c : Nat} {xs : List UInt8} (h : Fresh w0 w A n c xs) : HO w 5 1 A n c (bs xs) := ⟨h.own⟩
end Go.Proofs.YthcleccofccbdaaGreat
end
section
open Go Go.RowKit
namespace Go.Proofs.YthcleccofccbdaaGreat
instance (priority := 600) Sub.grewW (w0 w : World) (A A' : Option Addr) (T : Nat → Prop) [g : Grew w A A'] [s : Sub w0 (rowOf A) T] [n : SzLe w0 w] : Sub w0 (rowOf A') T := ⟨fun x hx ⟨ad, e, hk⟩ => by
  rcases g.out with h1 | h1
  · exact s.out x hx ⟨ad, by rw [← h1]; exact e, hk⟩
  · have h2 := n.out
    rw [h1] at e
    injection e with e
    subst e
    have h3 : w.heap.size = x := hk
    omega⟩
end Go.Proofs.YthcleccofccbdaaGreat
end
section
open Go Go.RowKit
namespace Go.Proofs.YthcleccofccbdaaGreat
def flatH (l : List H32) : List UInt8 := l.flatMap (·.l)
theorem flatH_app (a b : List H32) : flatH (a ++ b) = flatH a ++ flatH b := by simp [flatH]
theorem flatH_take (l : List H32) (k : Nat) (h : k < l.length) : flatH (l.take (k + 1)) = flatH (l.take k) ++ (hget l k).l := by
  have e : l.take (k + 1) = l.take k ++ [hget l k] := by
    rw [List.take_add_one, List.getElem?_eq_getElem h]
    simp [hget, List.getD_eq_getElem?_getD, h]
  rw [e, flatH_app]
  simp [flatH]
def keyB (l : List H32) (need : Int) : List UInt8 := encAll [(l.length : Int)] ++ flatH l ++ encAll [need]
set_option maxRecDepth 100000 in
set_option maxHeartbeats 1600000 in
theorem rKeys_calls {A : Option Addr} {n c : Nat} {l : List H32} (need : Int) {w : World} [hr : HR w A (cellsOf l)] (hl : l.length = n) (hmax : n ≤ 1000) :
    Calls Tryz.prog 102 #[.agg #[.slice A n c, .int .i64 need]] w fun e w' => ∃ A' n' c', e = .returned (.slice A' n' c') ∧ Step nowhere w w' ∧ HO w' 5 1 A' n' c' (bs (keyB l need)) ∧ NewA w A' ∧ n' ≤ 18 + 32 * n := by
  have HLL := Lib.hid hl
  have HE1 : Hid ((encAll [(n : Int)]).length ≤ 9) := Lib.hid (encAll_len [(n : Int)])
  have HE2 : Hid ((encAll [need]).length ≤ 9) := Lib.hid (encAll_len [need])
  have HKB : Hid (keyB l need = encAll [(n : Int)] ++ flatH l ++ encAll [need]) := Lib.hid (by rw [keyB, hl])
  clear hl
  go_enter Tryz.func102, Tryz.ntmps102
  go_wp2_with (first | ((with_reducible apply (wpl_box_agg (dst := some 1))); (exact rfl); intro zs wzs _ _ _) | ((with_reducible apply wpl_loadcellN); (exact rfl); infer_instance; (exact rfl)))
  have hs5 : HB wzs zs 42 #[.slice A n c, .int .i64 need] := inferInstance
  refine (refNum_calls n _).mono ?_
  rintro e w6 ⟨A6, n6, c6, rfl, hF⟩
  have st6 : Step nowhere wzs w6 := ⟨hF.out.chg⟩
  have n5 : Nw w wzs := inferInstance
  have hA6 : NewA w A6 := ⟨fun ad e => Nat.le_trans n5.out.size (hF.out.new ad e)⟩
  have ho6 : HO w6 5 1 A6 n6 c6 (bs (encAll [(n : Int)] ++ flatH (l.take 0))) := by
    have h1 := fresh_hoW hF.out
    rw [← encAll_one] at h1
    simpa [flatH] using h1
  have hn6 : n6 ≤ 9 := by
    have h1 := hF.out.len
    rw [← encAll_one] at h1
    have := HE1.out
    omega
  have hs6 : HB w6 zs 42 #[.slice A n c, .int .i64 need] := inferInstance
  have os : OffB (rowOf A6) zs := ⟨fun ⟨ad, e, hk⟩ => by
    have h1 := hF.out.new ad e
    have h2 := hs5.out.lt
    omega⟩
  clear hF
  go_wp2_with fail
  go_loopw [3, 4] (fun bv iv wr => ∃ (k : Nat) (A1 : Option Addr) (n1 c1 : Nat), k ≤ n ∧ iv = .int .i64 (k : Int) ∧ bv = .slice A1 n1 c1 ∧ Step nowhere w wr ∧ HO wr 5 1 A1 n1 c1 (bs (encAll [(n : Int)] ++ flatH (l.take k))) ∧ NewA w A1 ∧ OffB (rowOf A1) zs ∧ n1 ≤ 9 + 32 * k ∧ HB wr zs 42 #[.slice A n c, .int .i64 need]) (fun _ iv _ => n - (intOf iv).toNat)
  case atStart => exact ⟨0, A6, n6, c6, Nat.zero_le _, rfl, rfl, stepN, ho6, hA6, os, by omega, hs6⟩
  case round =>
    clear ho6 hA6 os hn6 hs6 st6 n5 hs5
    obtain ⟨k, A1, n1, c1, hk, rfl, rfl, _, hO, hA1, os, hn1, hs⟩ := hrel
    have st : Step nowhere w wr := inferInstance
    have n1' : Nw w wr := ⟨st.chg⟩
    by_cases hlt : k < n
    · have hltI : (k : Int) < n := by omega
      have hln := HLL.out
      have hkl : k < l.length := by omega
      have hF : Fact' (k < l.length) := ⟨hkl⟩
      have htk := flatH_take l k hkl
      have HTK : Hid (encAll [(n : Int)] ++ flatH (l.take k) ++ (hget l k).l = encAll [(n : Int)] ++ flatH (l.take (k + 1))) := Lib.hid (by rw [htk, List.append_assoc])
      clear htk
      go_wp2_with (first | ((with_reducible apply wpl_loadcellN); (exact rfl); infer_instance; (exact rfl)) | ((with_reducible apply wpl_indexH); (exact rfl); (exact rfl); infer_instance; infer_instance; (first | (with_reducible assumption) | omega); (first | (with_reducible assumption) | omega); (first | (with_reducible assumption) | omega)) | ((with_reducible apply wpl_sliceH); (exact rfl); (exact Tryz.underlying47); (kernel_rfl); infer_instance; (first | (with_reducible assumption) | omega)) | ((with_reducible apply wpl_appendB); (exact rfl); (exact rfl); infer_instance; (first | exact inferInstance | exact ⟨Own.nil _ _ _⟩); infer_instance; (first | (with_reducible assumption) | (with_reducible exact H32.len _) | (focus (simp; done)) | omega); (first | (with_reducible assumption) | omega); intro A' c' wa _ _ _ hcap))
      refine ⟨⟨k + 1, A', n1 + 32, c', by omega, by go_num, rfl, stepN, ?_, inferInstance, inferInstance, by omega, inferInstance⟩, by simp [intOf]; omega⟩
      rw [← HTK.out]
      infer_instance
    · have hltI : ¬ (k : Int) < n := by omega
      have hkn : k = n := by omega
      have hfin : l.take k = l := List.take_of_length_le (by have := HLL.out; omega)
      rw [hfin] at hO
      clear hkn hfin
      go_wp2_with (first | ((with_reducible apply wpl_loadcellN); (exact rfl); infer_instance; (exact rfl)))
      refine (refNum_calls need _).mono ?_
      rintro e w7 ⟨A7, n7, c7, rfl, hF⟩
      have st7 : Step nowhere _ w7 := ⟨hF.out.chg⟩
      have hr7 : HR w7 A7 (bs (encAll [need])) := ⟨by rw [encAll_one]; exact hF.out.own.rd⟩
      have hl7 : (encAll [need]).length = n7 := by rw [encAll_one]; exact hF.out.len.symm
      have hn7 : n7 ≤ 9 := by
        have := HE2.out
        omega
      clear hF
      go_wp2_with (first | ((with_reducible apply wpl_appendB); (exact rfl); (exact rfl); infer_instance; (first | exact inferInstance | exact ⟨Own.nil _ _ _⟩); infer_instance; (first | (with_reducible assumption) | (with_reducible exact H32.len _) | (focus (simp; done)) | omega); (first | (with_reducible assumption) | omega); intro A' c' wa _ _ _ hcap))
      go_ret
      refine ⟨A', n1 + n7, c', rfl, stepN, ?_, inferInstance, by omega⟩
      rw [HKB.out]
      infer_instance
end Go.Proofs.YthcleccofccbdaaGreat
end
section
open Go Go.RowKit
namespace Go.Proofs.YthcleccofccbdaaGreat
instance cellFHash : CellT Tryz.prog 186 := ⟨fun _ => by kernel_rfl, fun _ => by kernel_rfl⟩
theorem FldPost.mono {w : World} {ys zs : List UInt8} {U V : Nat → Prop} (hy : ys = zs) (hU : ∀ x, U x → V x) : ∀ e w', FldPost w ys U e w' → FldPost w zs V e w' := by
  rintro e w' ⟨f, caps, T, rfl, hs, hL, hT⟩
  subst hy
  exact ⟨f, caps, T, rfl, hs, hL, fun x hx => (hT x hx).imp id (hU x)⟩
end Go.Proofs.YthcleccofccbdaaGreat
end
section
open Go Go.RowKit
namespace Go.Proofs.YthcleccofccbdaaGreat
/-- what is left behind the kind -/
def kindS (kind : Nat) (b : List UInt8) : RS := if (⟨b, false⟩ : RS).num.1 = kind then (⟨b, false⟩ : RS).num.2 else RS.bad
theorem kindS_le (kind : Nat) (b : List UInt8) : (kindS kind b).b.length ≤ b.length := by
  unfold kindS
  split
  · exact RS.num_le ⟨b, false⟩
  · exact Nat.zero_le _
def wholeB (s : RS) : Bool := !s.e && decide (s.b = [])
def tOk (b : List UInt8) : Bool := wholeB (tR (kindS 2 b)) && timB (tV (kindS 2 b)) (tE (kindS 2 b)) (tS (kindS 2 b))
/-- what is decoded -/
def timD (b : List UInt8) : Array Value := (timL (tV (kindS 2 b)) (tE (kindS 2 b)) (tS (kindS 2 b)) (tH (kindS 2 b))).toArray
def DecT (b : List UInt8) (w : World) : Ending → World → Prop := fun e w' => Step nowhere w w' ∧ e = .returned (if tOk b then .tuple #[.agg (timD b), .int .i64 0] else .tuple #[.agg (timL 0 0 0 zeroH).toArray, .int .i64 2])
end Go.Proofs.YthcleccofccbdaaGreat
end
section
open Go Go.RowKit
namespace Go.Proofs.YthcleccofccbdaaGreat
end Go.Proofs.YthcleccofccbdaaGreat
end
section
open Go Go.RowKit
namespace Go.Proofs.YthcleccofccbdaaGreat
/-- the parts of a report, as they are taken -/
def rU (s : RS) : List UInt8 := s.row.1
def rN (s : RS) : List UInt8 := s.row.2.row.1
def rS2 (s : RS) : RS := s.row.2.row.2
def rH (s : RS) : H32 := (rS2 s).hsh
def rS3 (s : RS) : RS := ((rS2 s).raw 32).2
def rC (s : RS) : Nat := (rS3 s).num.1
def rK (s : RS) : Nat := ((rS3 s).at 1).num.1
def rR (s : RS) : RS := (rS3 s).at 2
theorem ne_of_le {a b : List UInt8} (h : a.length ≤ b.length) (ha : a ≠ []) : b ≠ [] := fun hb => ha (List.eq_nil_of_length_eq_zero (by rw [hb] at h; simpa using h))
end Go.Proofs.YthcleccofccbdaaGreat
end
section
open Go Go.RowKit
namespace Go.Proofs.YthcleccofccbdaaGreat
def rOk (b : List UInt8) : Bool := wholeB (rR (kindS 5 b)) && repB (rU (kindS 5 b)) (rN (kindS 5 b)) (rC (kindS 5 b)) (rK (kindS 5 b))
/-- what is decoded -/
def repD (b : List UInt8) : Array Value := (repL (strL (rU (kindS 5 b))) (strL (rN (kindS 5 b))) (rH (kindS 5 b)) (rC (kindS 5 b)) (rK (kindS 5 b))).toArray
def DecR (b : List UInt8) (w : World) : Ending → World → Prop := fun e w' => Step nowhere w w' ∧ e = .returned (if rOk b then .tuple #[.agg (repD b), .int .i64 0] else .tuple #[.agg (repL ⟨#[]⟩ ⟨#[]⟩ zeroH 0 0).toArray, .int .i64 2])
end Go.Proofs.YthcleccofccbdaaGreat
end
section
open Go Go.RowKit
namespace Go.Proofs.YthcleccofccbdaaGreat
theorem ofNat_toNat (c : UInt8) (n : Nat) (h : n = c.toNat) : UInt8.ofNat n = c := by subst h; exact UInt8.ofNat_toNat
theorem parse_back : ∀ (b : List UInt8) (i acc N : Nat) (r : List UInt8), parse i acc b = some (N, r) → ∃ n, N = acc + n * 128 ^ i ∧ b = enc n ++ r ∧ (0 < i → 0 < n) ∧ N ≤ 4611686018427387904
  | [], i, acc, N, r, h => by simp [parse] at h
  | c :: b, i, acc, N, r, h => by
    have hc := c.toNat_lt
    rw [parse] at h
    by_cases h9 : 9 ≤ i
    · rw [if_pos h9] at h
      cases h
    · rw [if_neg h9] at h
      by_cases h1 : 128 ≤ c.toNat
      · rw [if_pos h1] at h
        obtain ⟨n, e1, e2, e3, e4⟩ := parse_back b (i + 1) _ N r h
        have hn : 0 < n := e3 (by omega)
        refine ⟨c.toNat % 128 + 128 * n, ?_, ?_, fun _ => by omega, e4⟩
        · rw [e1, Nat.add_mul, Nat.pow_succ, Nat.add_assoc]
          congr 2
          rw [Nat.mul_comm 128 n, Nat.mul_assoc, Nat.mul_comm 128]
        · have hl : ¬ (c.toNat % 128 + 128 * n) < 128 := by omega
          rw [enc_large hl, show (c.toNat % 128 + 128 * n) % 128 + 128 = c.toNat by omega, show (c.toNat % 128 + 128 * n) / 128 = n by omega, ofNat_toNat c _ rfl, e2]
          rfl
      · rw [if_neg h1] at h
        by_cases h2 : 4611686018427387904 < acc + c.toNat % 128 * 128 ^ i ∨ (c.toNat = 0 ∧ 0 < i)
        · rw [if_pos h2] at h
          cases h
        · rw [if_neg h2] at h
          injection h with h
          injection h with ha hb
          subst hb
          have hm : c.toNat % 128 = c.toNat := by omega
          rw [hm] at ha h2
          refine ⟨c.toNat, ha.symm, ?_, fun hi => ?_, by omega⟩
          · rw [enc_small (by omega), ofNat_toNat c _ rfl]
            rfl
          · rcases Nat.eq_zero_or_pos c.toNat with h0 | h0
            · exact absurd (.inr ⟨h0, hi⟩) h2
            · exact h0
theorem num_back {s : RS} (h : s.num.2.e = false) : s.e = false ∧ s.b = enc s.num.1 ++ s.num.2.b ∧ s.num.1 ≤ 4611686018427387904 := by
  unfold RS.num at *
  cases he : s.e
  case true =>
    rw [he, if_pos rfl] at h
    rw [he] at h
    cases h
  case false =>
    rw [he, if_neg (by decide)] at h
    rw [if_neg (by decide)]
    cases hp : parse 0 0 s.b with
    | none =>
      rw [hp] at h
      cases h
    | some x =>
      obtain ⟨N, r⟩ := x
      obtain ⟨n, e1, e2, _, e4⟩ := parse_back s.b 0 0 N r hp
      have hN : N = n := by simpa using e1
      refine ⟨rfl, ?_, e4⟩
      show s.b = enc N ++ r
      rw [hN]
      exact e2
theorem raw_back {s : RS} {i : Int} (h : (s.raw i).2.e = false) : s.e = false ∧ 0 ≤ i ∧ s.b = (s.raw i).1 ++ (s.raw i).2.b ∧ ((s.raw i).1.length : Int) = i := by
  unfold RS.raw at *
  by_cases hc : s.e ∨ i < 0 ∨ (s.b.length : Int) < i
  · rw [if_pos hc] at h
    cases h
  · rw [if_neg hc]
    have h1 : s.e = false := by
      cases he : s.e
      · rfl
      · exact absurd (.inl he) hc
    have h2 : 0 ≤ i := Int.not_lt.1 (fun h => hc (.inr (.inl h)))
    have h3 : i ≤ (s.b.length : Int) := Int.not_lt.1 (fun h => hc (.inr (.inr h)))
    refine ⟨h1, h2, (List.take_append_drop _ _).symm, ?_⟩
    show ((s.b.take i.toNat).length : Int) = i
    rw [List.length_take]
    omega
theorem hsh_back {s : RS} (h : (s.raw 32).2.e = false) : s.e = false ∧ s.b = s.hsh.l ++ (s.raw 32).2.b := by
  obtain ⟨h1, _, h3, h4⟩ := raw_back h
  refine ⟨h1, ?_⟩
  rw [RS.hsh, dif_pos (by omega)]
  exact h3
theorem encN {n : Nat} (h : n ≤ 4611686018427387904) : encAll [(n : Int)] = enc n := by rw [encAll_one, clampN_nat n h]
theorem kind_back {k : Nat} {b : List UInt8} (h : (kindS k b).e = false) : b = enc k ++ (kindS k b).b := by
  unfold kindS at *
  by_cases hk : (⟨b, false⟩ : RS).num.1 = k
  · rw [if_pos hk] at h ⊢
    have h1 := (num_back h).2.1
    rw [hk] at h1
    exact h1
  · rw [if_neg hk] at h
    cases h
theorem whole_back {s : RS} (h : wholeB s = true) : s.e = false ∧ s.b = [] := by
  unfold wholeB at h
  rw [Bool.and_eq_true] at h
  exact ⟨by simpa using h.1, of_decide_eq_true h.2⟩
theorem encAll_app (a b : List Int) : encAll (a ++ b) = encAll a ++ encAll b := by simp [encAll]
/-- a time's bytes -/
def timE (v e s : Int) (h : H32) : List UInt8 := encAll [2] ++ (encAll [v, e, s] ++ h.l)
/-- a report's bytes -/
def repE (l m : List UInt8) (h : H32) (c k : Int) : List UInt8 := encAll [5] ++ (encRow l ++ (encRow m ++ (h.l ++ encAll [c, k])))
end Go.Proofs.YthcleccofccbdaaGreat
end
section
open Go Go.RowKit
namespace Go.Proofs.YthcleccofccbdaaGreat
/-- so many digests taken -/
def hS (s : RS) : Nat → RS
  | 0 => s
  | k + 1 => ((hS s k).raw 32).2
def hN (s : RS) : Nat → List H32
  | 0 => []
  | k + 1 => hN s k ++ [(hS s k).hsh]
theorem hN_len (s : RS) : ∀ k, (hN s k).length = k
  | 0 => rfl
  | k + 1 => by rw [hN, List.length_append, hN_len s k]; rfl
theorem hS_le (s : RS) : ∀ k, (hS s k).b.length ≤ s.b.length
  | 0 => Nat.le_refl _
  | k + 1 => Nat.le_trans ((hS s k).raw_l 32) (hS_le s k)
theorem flatH_snoc (l : List H32) (h : H32) : flatH (l ++ [h]) = flatH l ++ h.l := by simp [flatH]
theorem hS_back (s : RS) : ∀ k, (hS s k).e = false → s.e = false ∧ s.b = flatH (hN s k) ++ (hS s k).b
  | 0, h => ⟨h, rfl⟩
  | k + 1, h => by
    obtain ⟨h1, h2⟩ := hsh_back (s := hS s k) h
    obtain ⟨h3, h4⟩ := hS_back s k h1
    refine ⟨h3, ?_⟩
    rw [hN, flatH_snoc, List.append_assoc]
    show s.b = flatH (hN s k) ++ ((hS s k).hsh.l ++ ((hS s k).raw 32).2.b)
    rw [← h2]
    exact h4
theorem hS_mono (s : RS) (j : Nat) : ∀ k, (hS s k).e = false → j ≤ k → (hS s j).e = false
  | 0, h, hj => by
    obtain rfl : j = 0 := by omega
    exact h
  | k + 1, h, hj => by
    by_cases e : j = k + 1
    · subst e; exact h
    · exact hS_mono s j k (hsh_back (s := hS s k) h).1 (by omega)
/-- keys taken: the program's way -/
def kL (s : RS) : List H32 := if 4 < s.num.1 then [] else hN s.num.2 s.num.1
def kM (s : RS) : RS := if 4 < s.num.1 then RS.bad else hS s.num.2 s.num.1
def kD (s : RS) : Nat := (kM s).num.1
def kR (s : RS) : RS := (kM s).num.2
theorem kM_le (s : RS) : (kM s).b.length ≤ s.b.length := by
  unfold kM
  split
  · exact Nat.zero_le _
  · exact Nat.le_trans (hS_le _ _) (RS.num_le s)
theorem kR_le (s : RS) : (kR s).b.length ≤ s.b.length := Nat.le_trans (RS.num_le _) (kM_le s)
/-- the reference's way -/
def GotQ (s : RS) (l : List H32) (need : Nat) (s' : RS) : Prop := ∃ j, j ≤ 5 ∧ j ≤ s.num.1 ∧ (j = s.num.1 ∨ j = 5 ∨ (hS s.num.2 j).e = true) ∧ l = hN s.num.2 j ∧ need = (hS s.num.2 j).num.1 ∧ s' = (hS s.num.2 j).num.2
theorem GotQ.same {s s' : RS} {l : List H32} {need : Nat} (h : GotQ s l need s') (he : s'.e = false) (hl : l.length ≤ 4) : l = kL s ∧ need = kD s ∧ s' = kR s := by
  obtain ⟨j, h5, hn, hj, rfl, rfl, rfl⟩ := h
  have h1 := (num_back he).1
  rw [hN_len] at hl
  have e : j = s.num.1 := by
    rcases hj with h | h | h
    · exact h
    · omega
    · rw [h1] at h; cases h
  have h4 : ¬ 4 < s.num.1 := by omega
  rw [kL, kD, kR, kM, if_neg h4, if_neg h4, ← e]
  exact ⟨rfl, rfl, rfl⟩
theorem kM_e {s : RS} (h : (kR s).e = false) : (kM s).e = false := (num_back h).1
theorem kM_n {s : RS} (h : (kM s).e = false) : ¬ 4 < s.num.1 := fun h4 => by
  rw [kM, if_pos h4] at h
  cases h
theorem GotQ.prog {s s' : RS} {l : List H32} {need : Nat} (h : GotQ s l need s') (he : (kR s).e = false) : l = kL s ∧ need = kD s ∧ s' = kR s := by
  obtain ⟨j, h5, hn, hj, rfl, rfl, rfl⟩ := h
  have h1 := kM_e he
  have h4 := kM_n h1
  rw [kM, if_neg h4] at h1
  have e : j = s.num.1 := by
    rcases hj with h | h | h
    · exact h
    · omega
    · rw [hS_mono _ _ _ h1 hn] at h; cases h
  rw [kL, kD, kR, kM, if_neg h4, if_neg h4, ← e]
  exact ⟨rfl, rfl, rfl⟩
theorem key_back {s : RS} (he : (kR s).e = false) : s.e = false ∧ s.b = keyB (kL s) (kD s) ++ (kR s).b := by
  have h1 := kM_e he
  have h4 := kM_n h1
  obtain ⟨a1, a2, a3⟩ := num_back (s := kM s) he
  have e1 : kM s = hS s.num.2 s.num.1 := by rw [kM, if_neg h4]
  rw [e1] at h1
  obtain ⟨b1, b2⟩ := hS_back s.num.2 s.num.1 h1
  obtain ⟨c1, c2, c3⟩ := num_back (s := s) b1
  refine ⟨c1, ?_⟩
  have e2 : kL s = hN s.num.2 s.num.1 := by rw [kL, if_neg h4]
  have e3 : encAll [(kD s : Int)] = enc (kD s) := encN a3
  have e4 : encAll [((kL s).length : Int)] = enc s.num.1 := by rw [e2, hN_len]; exact encN c3
  rw [keyB, e4, e3, c2, List.append_assoc, List.append_assoc]
  congr 1
  rw [b2, ← e2, ← e1]
  congr 1
/-- so many keys taken -/
def kAt (s : RS) : Nat → RS
  | 0 => s
  | k + 1 => kR (kAt s k)
def kK (s : RS) : Nat → List (List H32 × Int)
  | 0 => []
  | k + 1 => kK s k ++ [(kL (kAt s k), (kD (kAt s k) : Int))]
theorem kAt_le (s : RS) : ∀ k, (kAt s k).b.length ≤ s.b.length
  | 0 => Nat.le_refl _
  | k + 1 => Nat.le_trans (kR_le _) (kAt_le s k)
def GotN : Nat → RS → List (List H32 × Int) → RS → Prop
  | 0, s, K, s' => K = [] ∧ s' = s
  | m + 1, s, K, s' => ∃ K' t l need, GotN m s K' t ∧ GotQ t l need s' ∧ K = K' ++ [(l, (need : Int))]
theorem GotN.same {s : RS} : ∀ (m : Nat) {K : List (List H32 × Int)} {s' : RS}, GotN m s K s' → s'.e = false → (∀ k ∈ K, k.1.length ≤ 4) → K = kK s m ∧ s' = kAt s m
  | 0, K, s', h, he, hk => h
  | m + 1, K, s', h, he, hk => by
    obtain ⟨K', t, l, need, h1, h2, rfl⟩ := h
    obtain ⟨rfl, rfl, rfl⟩ := h2.same he (hk (l, (need : Int)) (by simp))
    obtain ⟨rfl, rfl⟩ := GotN.same m h1 (key_back he).1 (fun k hk' => hk k (by simp [hk']))
    exact ⟨rfl, rfl⟩
theorem GotN.prog {s : RS} : ∀ (m : Nat) {K : List (List H32 × Int)} {s' : RS}, GotN m s K s' → (kAt s m).e = false → K = kK s m ∧ s' = kAt s m
  | 0, K, s', h, he => h
  | m + 1, K, s', h, he => by
    obtain ⟨K', t, l, need, h1, h2, rfl⟩ := h
    obtain ⟨rfl, rfl⟩ := GotN.prog m h1 (key_back he).1
    obtain ⟨rfl, rfl, rfl⟩ := h2.prog he
    exact ⟨rfl, rfl⟩
def keysB (K : List (List H32 × Int)) : List UInt8 := K.flatMap fun k => keyB k.1 k.2
theorem keys_back (s : RS) : ∀ m, (kAt s m).e = false → s.e = false ∧ s.b = keysB (kK s m) ++ (kAt s m).b
  | 0, h => ⟨h, rfl⟩
  | m + 1, h => by
    obtain ⟨h1, h2⟩ := key_back (s := kAt s m) h
    obtain ⟨h3, h4⟩ := keys_back s m h1
    refine ⟨h3, ?_⟩
    rw [kK, keysB, List.flatMap_append]
    show s.b = keysB (kK s m) ++ ((keyB _ _ ++ [])) ++ (kR (kAt s m)).b
    rw [List.append_nil, List.append_assoc, ← h2]
    exact h4
def rtV (b : List UInt8) : Nat := (kindS 1 b).num.1
def rtX (b : List UInt8) : Nat := ((kindS 1 b).at 1).num.1
def rtS (b : List UInt8) : RS := (kindS 1 b).at 2
def rootB (v e : Int) (K : List (List H32 × Int)) : Bool := verB v && numB e && K.all fun k => isB k.1 k.2
/-- a root's bytes -/
def rootE (v e : Int) (K : List (List H32 × Int)) : List UInt8 := encAll [1] ++ (encAll [v, e] ++ keysB K)
theorem rootE_eq (v e : Int) (K : List (List H32 × Int)) : rootE v e K = encAll [1, v, e] ++ keysB K := by
  rw [rootE, ← List.append_assoc, ← encAll_app]
  rfl
def rtOk (b : List UInt8) : Bool := wholeB (kAt (rtS b) 4) && rootB (rtV b) (rtX b) (kK (rtS b) 4)
theorem rt_back {b : List UInt8} (h : rtOk b = true) : b = rootE (rtV b) (rtX b) (kK (rtS b) 4) := by
  unfold rtOk at h
  rw [Bool.and_eq_true] at h
  obtain ⟨h1, h2⟩ := whole_back h.1
  obtain ⟨a1, a2⟩ := keys_back (rtS b) 4 h1
  unfold rtV rtX
  generalize hS : kindS 1 b = S at *
  have hs : rtS b = S.at 2 := by rw [rtS, hS]
  rw [hs] at a1 a2 h2 ⊢
  obtain ⟨c1, c2, c3⟩ := num_back (s := S.at 1) a1
  obtain ⟨d1, d2, d3⟩ := num_back (s := S) c1
  have hb := kind_back (k := 1) (b := b) (by rw [hS]; exact d1)
  rw [hS] at hb
  rw [h2, List.append_nil] at a2
  have e3 : encAll [1, (S.num.1 : Int), ((S.at 1).num.1 : Int)] = enc 1 ++ (enc S.num.1 ++ enc (S.at 1).num.1) := by
    rw [show [(1 : Int), (S.num.1 : Int), ((S.at 1).num.1 : Int)] = [((1 : Nat) : Int)] ++ ([(S.num.1 : Int)] ++ [((S.at 1).num.1 : Int)]) from rfl, encAll_app, encAll_app, encN (n := 1) (by decide), encN d3, encN c3]
  rw [rootE_eq, e3, hb, List.append_assoc, List.append_assoc]
  congr 1
  rw [d2]
  congr 1
  show (S.at 1).b = _
  rw [c2]
  congr 1
theorem root_len4 {v e : Int} {K : List (List H32 × Int)} (h : rootB v e K = true) : ∀ k ∈ K, k.1.length ≤ 4 := by
  intro k hk
  unfold rootB at h
  rw [Bool.and_eq_true] at h
  have h1 := List.all_eq_true.1 h.2 k hk
  unfold isB at h1
  simp only [Bool.and_eq_true, decide_eq_true_eq] at h1
  exact h1.1.1.1
/-- the reference takes what the program takes -/
theorem rt_ref {b : List UInt8} {K : List (List H32 × Int)} {s' : RS} (h : GotN 4 (rtS b) K s') : (wholeB s' && rootB (rtV b) (rtX b) K && decide (b = rootE (rtV b) (rtX b) K)) = rtOk b ∧ (rtOk b = true → K = kK (rtS b) 4) := by
  by_cases hk : rtOk b = true
  · have h0 := hk
    unfold rtOk at h0
    rw [Bool.and_eq_true] at h0
    obtain ⟨rfl, rfl⟩ := GotN.prog 4 h (whole_back h0.1).1
    refine ⟨?_, fun _ => rfl⟩
    rw [hk, h0.1, h0.2, decide_eq_true (rt_back hk)]
    rfl
  · refine ⟨?_, fun h => absurd h hk⟩
    rw [Bool.not_eq_true] at hk
    rw [hk, ← Bool.not_eq_true]
    intro h1
    rw [Bool.and_eq_true, Bool.and_eq_true] at h1
    obtain ⟨rfl, rfl⟩ := GotN.same 4 h (whole_back h1.1.1).1 (root_len4 h1.1.2)
    unfold rtOk at hk
    rw [h1.1.1, h1.1.2] at hk
    cases hk
end Go.Proofs.YthcleccofccbdaaGreat
end
section
open Go Go.RowKit
namespace Go.Proofs.YthcleccofccbdaaGreat
section
variable {P : Program} {ops : Array Oper} {rest : List Oper} {a : Act} {w : World} {Q : Exit → Act → World → Prop} {dst : Option Tmp} {ty : TypeId} {pos : String} {after : Array Edge} {gd : Option (Nat × Bool)}
/-- the address of an element of an array -/
theorem ev_indexRK {t e : TypeId} {x ix : Operand} {g k m : Nat} {i : Nat} (hx : a.eval x = .pointer (some ⟨g, k, none⟩)) (hi : a.eval ix = .int .i64 (i : Int)) (hu : P.underlying t = some (.array m e)) (hs : (P.info? e).map (·.size) = some 2) (h1 : i < m) :
    (execOp a.eval ⟨dst, .indexAddr t x ix, ty, pos, after, gd⟩).run P w = .ok (.value (.pointer (some ⟨g, k + i * 2, none⟩))) w := by
  show ((Instr.indexAt t (a.eval x) (a.eval ix)) >>= fun v => pure (Next.value v)).run P w = _
  rw [hx, hi]
  cases hq : P.info? e with
  | none => rw [hq] at hs; simp at hs
  | some j =>
    rw [hq] at hs
    simp at hs
    have h2 : (i : Int) < m := by omega
    simp [Instr.indexAt, asIntOf, run_underlying hu, sizeOf, typeInfo, hq, hs, h1, Instr.sureAddr, Addr.add]
theorem wpl_indexRK {t e : TypeId} {x ix : Operand} {g k m : Nat} {i : Nat} (hx : a.eval x = .pointer (some ⟨g, k, none⟩)) (hi : a.eval ix = .int .i64 (i : Int)) (hu : P.underlying t = some (.array m e)) (hs : (P.info? e).map (·.size) = some 2) (h1 : i < m)
    (h : wpList P ops Q rest (a.put dst (.pointer (some ⟨g, k + i * 2, none⟩))) w) : wpList P ops Q (⟨dst, .indexAddr t x ix, ty, pos, after, none⟩ :: rest) a w := wpl_of_run rfl (ev_indexRK hx hi hu hs h1) h
/-- a root's keys, whole -/
theorem ev_loadRK {t : TypeId} {x : Operand} {g i : Nat} (hx : a.eval x = .pointer (some ⟨g, 2 + i * 2, none⟩)) {tb : TypeId} {v e : Int} {K : List KR} (hb : HB w g tb (rtL v e K).toArray) (ht : RowT P t 2) (hk : i < K.length) :
    (execOp a.eval ⟨dst, .load t x, ty, pos, after, gd⟩).run P w = .ok (.value (.agg (RowC.enc (gt K i)).toArray)) w := by
  have e : a.eval x = ptrOf (some ⟨g, 2, none⟩) (i * 2) := by
    rw [hx]
    simp [ptrOf, shift, Addr.add]
  show ((Instr.loadAt t (a.eval x)) >>= fun v => pure (Next.value v)).run P w = _
  rw [e, Sem.run_bind, run_loadshift (k := i * 2) (cs := RowC.enc (gt K i)) (root_tail hb).out ht rfl (cellsOf_at K i hk) (by decide)]
  rfl
theorem wpl_loadRK {t : TypeId} {x : Operand} {g i : Nat} (hx : a.eval x = .pointer (some ⟨g, 2 + i * 2, none⟩)) {tb : TypeId} {v e : Int} {K : List KR} (hb : HB w g tb (rtL v e K).toArray) (ht : RowT P t 2) (hk : i < K.length)
    (h : wpList P ops Q rest (a.put dst (.agg (RowC.enc (gt K i)).toArray)) w) : wpList P ops Q (⟨dst, .load t x, ty, pos, after, none⟩ :: rest) a w := wpl_of_run rfl (ev_loadRK hx hb ht hk) h
theorem wpl_storeRK {t : TypeId} {x y : Operand} {g i : Nat} {k : KR} (hx : a.eval x = .pointer (some ⟨g, 2 + i * 2, none⟩)) (hy : a.eval y = .agg (RowC.enc k).toArray) {tb : TypeId} {v e : Int} {K : List KR} (hb : HB w g tb (rtL v e K).toArray) (ht : RowT P t 2) (hk : i < K.length)
    (h : ∀ w', Step (only g) w w' → HB w' g tb (rtL v e (K.set i k)).toArray → wpList P ops Q rest (a.put dst undef) w') : wpList P ops Q (⟨dst, .store t x y, ty, pos, after, none⟩ :: rest) a w := by
  have hsz : (rtL v e K).length = 2 + 2 * K.length := by
    simp [rtL, cellsOf_len, show RowC.size KR = 2 from rfl]
    omega
  have h1 : (cellsOf K).take (i * 2) ++ RowC.enc k ++ (cellsOf K).drop (i * 2 + 2) = cellsOf (K.set i k) := cellsOf_set K i k hk
  refine wpl_storepart hx hy hb ht rfl (by decide) (by rw [List.size_toArray, hsz]; omega) (by rw [Array.all_eq_true_iff_forall_mem]; intro u hu; exact RowC.one k u (by simpa using hu)) (cs' := (rtL v e (K.set i k)).toArray) ?_ h
  show (rtL v e K).take (2 + i * 2) ++ (RowC.enc k) ++ (rtL v e K).drop (2 + i * 2 + 2) = rtL v e (K.set i k)
  rw [rtL, rtL, ← h1, show 2 + i * 2 = (i * 2 + 1) + 1 by omega, show i * 2 + 1 + 1 + 2 = (i * 2 + 2 + 1) + 1 by omega]
  simp
end
/-- keys that are all at hand, in rows of their own -/
def KsIn (w0 w : World) (K : List KR) : Prop := ∀ k ∈ K, KIn w k ∧ NewA w0 k.A
theorem KsIn.chg {S : Nat → Prop} {w0 w w' : World} {K : List KR} (h : KsIn w0 w K) (hc : Chg S w w') (hS : ∀ x, S x → x < w0.heap.size) : KsIn w0 w' K := fun k hk => ⟨(h k hk).1.chg hc (fun x ⟨_, ad, e, hx⟩ hs => by
  have := (h k hk).2.out ad e
  have := hS x hs
  omega), (h k hk).2⟩
theorem KsIn.set {w0 w : World} {K : List KR} (h : KsIn w0 w K) (i : Nat) {k : KR} (h1 : KIn w k) (h2 : NewA w0 k.A) : KsIn w0 w (K.set i k) := fun x hx => by
  rcases List.mem_or_eq_of_mem_set hx with h3 | rfl
  · exact h x h3
  · exact ⟨h1, h2⟩
theorem KsIn.none (w0 w : World) : KsIn w0 w noK := fun k hk => by
  refine ⟨noKIn w k hk, ?_⟩
  simp only [noK, List.mem_cons, List.not_mem_nil, or_false] at hk
  have : k = noKR := by rcases hk with h | h | h | h <;> exact h
  subst this
  exact ⟨fun ad e => by cases e⟩
theorem KsIn.first {w0 w1 w : World} {K : List KR} (h : KsIn w1 w K) (hs : w0.heap.size ≤ w1.heap.size) : KsIn w0 w K := fun k hk => ⟨(h k hk).1, ⟨fun ad e => Nat.le_trans hs ((h k hk).2.out ad e)⟩⟩
theorem set_take_map {α β : Type} (f : α → β) (K : List α) (i : Nat) (x : α) (h : i < K.length) : ((K.set i x).take (i + 1)).map f = (K.take i).map f ++ [f x] := by
  rw [List.take_add_one, List.map_append]
  congr 1
  · rw [List.take_set_of_le (Nat.le_refl _)]
  · simp [h]
end Go.Proofs.YthcleccofccbdaaGreat
end
