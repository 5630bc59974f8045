/- RrB, RrC -/
import Derived.Test.YtgjnjhhhbkidbaaGreatUcRrA
section
open Go Go.RowKit
namespace Go.Proofs.YtgjnjhhhbkidbaaGreat
theorem ofInt_u64 (a : Nat) (ha : a < 18446744073709551616) : (BitVec.ofInt 64 (a : Int)).toNat = a := by
 rw [BitVec.ofInt_natCast, BitVec.toNat_ofNat]; exact Nat.mod_eq_of_lt (by omega)
theorem u64_or_nat (a b : Nat) (ha : a < 18446744073709551616) (hb : b < 18446744073709551616) : bits .or .u64 (a : Int) (b : Int) = ((a ||| b : Nat) : Int) := by
 have hx : a ||| b < 2 ^ 64 := Nat.or_lt_two_pow (by omega) (by omega)
 show IntKind.u64.wrap ((BitVec.ofInt 64 (a : Int) ||| BitVec.ofInt 64 (b : Int)).toNat : Int) = _
 rw [BitVec.toNat_or, ofInt_u64 a ha, ofInt_u64 b hb, IntKind.wrap_u64]
 omega
theorem u8_and127 (b : UInt8) : bits .and .u8 (b.toNat : Int) 127 = ((b.toNat % 128 : Nat) : Int) := by
 have := b.toNat_lt
 rw [show (127 : Int) = ((127 : Nat) : Int) from rfl, u8_and_nat _ _ (by omega) (by omega), nat_mask7]
theorem or_shift_u (k acc lo : Nat) (hk : k < 9) (hacc : acc < 128 ^ k) (hlo : lo < 128) : bits .or .u64 (acc : Int) (IntKind.u64.wrap ((lo : Int) * 2 ^ (7 * k))) = ((acc + lo * 128 ^ k : Nat) : Int) ∧ acc + lo * 128 ^ k < 9223372036854775808 ∧ acc + lo * 128 ^ k < 128 ^ (k + 1) := by
 have e1 : (2 : Nat) ^ (7 * k) = 128 ^ k := by rw [Nat.pow_mul]
 have h1 : lo * 128 ^ k ≤ 127 * 128 ^ k := Nat.mul_le_mul_right _ (by omega)
 have h2 : 128 ^ k * 128 ≤ 9223372036854775808 := by
  have : (128 : Nat) ^ (k + 1) ≤ 128 ^ 9 := Nat.pow_le_pow_right (by decide) (by omega)
  rw [Nat.pow_succ] at this
  exact this
 have h3 : acc + lo * 128 ^ k < 128 ^ k * 128 := by omega
 have e2 : ((lo : Int) * 2 ^ (7 * k)) = ((lo * 128 ^ k : Nat) : Int) := by
  rw [← e1]
  simp
 refine ⟨?_, by omega, by rw [Nat.pow_succ]; exact h3⟩
 rw [e2, IntKind.wrap_u64, show (((lo * 128 ^ k : Nat) : Int) % 18446744073709551616) = ((lo * 128 ^ k : Nat) : Int) by omega, u64_or_nat _ _ (by omega) (by omega)]
 congr 1
 rw [Nat.or_comm]
 have := nat_join (7 * k) (lo * 128 ^ k) acc (by rw [e1]; exact Nat.mul_mod_left _ _) (by rw [e1]; exact hacc)
 rw [this]
 omega
theorem RS.raw_one (b : List UInt8) (k : Nat) (h : k < b.length) : (⟨b.drop k, false⟩ : RS).raw 1 = ([b[k]], ⟨b.drop (k + 1), false⟩) := by
 unfold RS.raw
 rw [if_neg (by
  rintro (h1 | h1 | h1)
  · cases h1
  · omega
  · rw [List.length_drop] at h1
    omega), List.drop_eq_getElem_cons h]
 rfl
set_option maxRecDepth 100000 in
set_option maxHeartbeats 1600000 in
theorem rrNum_calls (g d : Nat) (s : RS) (w : World) (h : RRAt w g d s) (hl : s.b.length ≤ 140737488351232) :
    Calls Tryz.prog 44 #[.pointer (some ⟨g, 0, none⟩)] w fun e w' => e = .returned (.int .i64 s.num.1) ∧ Hid (RRAt w' g d s.num.2) ∧ Hid (Chg (fun k => k = g) w w') := by
 have H := Lib.hid h
 have hok := Lib.hid h.ok
 have HL := Lib.hid hl
 clear h hl
 go_enter Tryz.func44, Tryz.ntmps44
 go_wp2_with fail
 go_loopw [3, 4] (fun a t wr => ∃ k acc : Nat, k ≤ 9 ∧ t = .int .i64 k ∧ a = .int .u64 acc ∧ Hid (acc < 128 ^ k) ∧ Hid (k ≤ s.b.length) ∧ Hid (RRAt wr g d ⟨s.b.drop k, s.e⟩) ∧ Hid (parse 0 0 s.b = parse k acc (s.b.drop k)) ∧ Hid (Chg (fun k => k = g) w wr)) (fun _ t _ => 10 - (intOf t).toNat)
 case atStart => exact ⟨0, 0, by omega, rfl, rfl, Lib.hid (by decide), Lib.hid (Nat.zero_le _), H, Lib.hid rfl, Lib.hid (Chg.refl _ _)⟩
 case round =>
  obtain ⟨k, acc, hk, rfl, rfl, HACC, HKL, HW, HPAR, HC⟩ := hrel
  have e1 : (k : Int) < 10 := by omega
  go_wp2_with fail
  refine (rrRaw_calls g d _ 1 _ HW.out (by rw [List.length_drop]; have := HL.out; omega)).mono ?_
  rintro e w1 ⟨A1, n1, c1, rfl, hn1, ho1, h1, h2, h3⟩
  have HC1 : Hid (Chg (fun k => k = g) w w1) := Lib.hid (HC.out.trans h2.out (fun _ _ h => h))
  by_cases hbad : s.e = true ∨ s.b.length ≤ k
  · have hraw : (⟨s.b.drop k, s.e⟩ : RS).raw 1 = ([], RS.bad) := by
      unfold RS.raw
      rw [if_pos]
      rcases hbad with h | h
      · exact .inl h
      · exact .inr (.inr (by rw [List.length_drop]; omega))
    rw [hraw] at h1
    have HNUM : Hid (s.num = (0, RS.bad)) := Lib.hid (by
     rcases hbad with h | h
     · have hs := RS.eta_bad hok.out h
       rw [hs]
       rfl
     · unfold RS.num
       rcases he : s.e with _ | _
       · rw [if_neg (by decide), HPAR.out, List.drop_eq_nil_of_le h, parse]
       · have hs := RS.eta_bad hok.out he
         rw [hs]
         rfl)
    have hc2 : w1.cell? ⟨g, 1, none⟩ = some (.bool true) := by
     obtain ⟨⟨_, _, _, _, _, hb1, _⟩, _⟩ := h1.out
     exact hb1.cell 1
    clear hraw hbad hn1 ho1 h3 h2
    go_wp2_with fail
    go_ret
    rw [HNUM.out]
    exact ⟨rfl, h1, HC1⟩
  · have he : s.e = false := by
      rcases h : s.e with _ | _
      · rfl
      · exact absurd (.inl h) hbad
    have hkl : k < s.b.length := by omega
    have hraw := RS.raw_one s.b k hkl
    rw [he] at ho1 hn1 h1
    rw [hraw] at ho1 hn1 h1
    have hdrop := List.drop_eq_getElem_cons hkl
    rw [hdrop] at HPAR
    have HNUM : Hid (s.num = match parse 0 0 s.b with | some (n, r) => (n, ⟨r, false⟩) | none => (0, RS.bad)) := Lib.hid (by unfold RS.num; rw [he]; rfl)
    have HKL2 := Lib.hid (show k + 1 ≤ s.b.length from hkl)
    have HE := Lib.hid he
    generalize s.b[k] = b at ho1 hn1 h1 HPAR
    obtain rfl : n1 = 1 := hn1.out
    obtain ⟨ad, hA1, hcb⟩ := ho1.out.rd 0 (u8v b) rfl
    subst hA1
    rw [add_zero_spot] at hcb
    have hcb' : w1.cell? ad = some (.int .u8 b.toNat) := hcb
    have hc2 : w1.cell? ⟨g, 1, none⟩ = some (.bool false) := by
     obtain ⟨⟨_, _, _, _, _, hb1, _⟩, _⟩ := h1.out
     exact hb1.cell 1
    have hb8 := b.toNat_lt
    have qa := u8_and127 b
    clear hcb hraw hbad hn1 ho1 h3 h2 hdrop hkl he HW
    by_cases h9 : k = 9
    · subst h9
      have HP : Hid (s.num = (0, RS.bad)) := Lib.hid (by rw [HNUM.out, HPAR.out, parse_long (by omega)])
      by_cases c1 : 1 < b.toNat
      · by_cases c2 : 127 < b.toNat
        · have g1 : (127 : Int) < b.toNat := by omega
          clear qa
          go_wp2_with fail
          refine (rrBad_calls g d _ _ h1.out).mono ?_
          rintro e w4 ⟨rfl, h4, h5⟩
          go_wp2_with fail
          go_ret
          rw [HP.out]
          exact ⟨rfl, h4, HC1.out.trans h5.out (fun _ _ h => h)⟩
        · have g1 : (b.toNat : Int) ≤ 127 := by omega
          have g2 : (1 : Int) < b.toNat := by omega
          clear qa
          go_wp2_with fail
          refine (rrBad_calls g d _ _ h1.out).mono ?_
          rintro e w4 ⟨rfl, h4, h5⟩
          go_wp2_with fail
          go_ret
          rw [HP.out]
          exact ⟨rfl, h4, HC1.out.trans h5.out (fun _ _ h => h)⟩
      · have g1 : (b.toNat : Int) ≤ 127 := by omega
        have g2 : (b.toNat : Int) ≤ 1 := by omega
        have hacc := HACC.out
        have hacc' : acc < 9223372036854775808 := hacc
        have q1 : bits .or .u64 (acc : Int) (IntKind.u64.wrap (IntKind.u64.wrap (bits .and .u8 1 127) * 9223372036854775808)) = ((acc + 9223372036854775808 : Nat) : Int) := by
         rw [show IntKind.u64.wrap (IntKind.u64.wrap (bits .and .u8 1 127) * 9223372036854775808) = ((9223372036854775808 : Nat) : Int) by decide, u64_or_nat _ _ (by omega) (by omega), Nat.or_comm]
         have := nat_join 63 9223372036854775808 acc (by decide) (by omega)
         rw [this]
         congr 1
         omega
        have hb01 : b = 0 ∨ b = 1 := by
         rcases (show b.toNat = 0 ∨ b.toNat = 1 by omega) with h | h
         · exact .inl (UInt8.toNat_inj.1 (by simpa using h))
         · exact .inr (UInt8.toNat_inj.1 (by simpa using h))
        obtain ⟨N, hN⟩ : ∃ N, N = acc + 9223372036854775808 := ⟨_, rfl⟩
        rw [← hN] at q1
        have hN1 : (4611686018427387904 : Int) < N := by omega
        have hN2 : N ≤ 18446744073709551615 := by omega
        clear hN qa c1 hacc hb8 hacc' g1 g2
        rcases hb01 with rfl | rfl
        all_goals
         go_wp2_with fail
         refine (rrBad_calls g d _ _ h1.out).mono ?_
         rintro e w4 ⟨rfl, h4, h5⟩
         go_wp2_with fail
         go_ret
         rw [HP.out]
         exact ⟨rfl, h4, HC1.out.trans h5.out (fun _ _ h => h)⟩
    · have hk9 : k < 9 := by omega
      have b9 : ((k : Int) == 9) = false := by simp; omega
      obtain ⟨q3, hq, hq'⟩ := or_shift_u k acc (b.toNat % 128) hk9 HACC.out (by omega)
      obtain ⟨na, hna⟩ : ∃ na, na = acc + b.toNat % 128 * 128 ^ k := ⟨_, rfl⟩
      obtain ⟨lo, hlo⟩ : ∃ lo, lo = b.toNat % 128 := ⟨_, rfl⟩
      rw [← hlo] at qa q3 hq hq' hna
      rw [← hna] at q3 hq hq'
      have HQ := Lib.hid hq'
      have hlo' : lo < 128 := by omega
      have hq9 : na ≤ 9223372036854775807 := by omega
      clear hq hq' h9
      by_cases h128 : 128 ≤ b.toNat
      · have hp := parse_more (acc := acc) (r := s.b.drop (k + 1)) hk9 h128
        rw [← hlo, ← hna] at hp
        have HPAR2 := Lib.hid (HPAR.out.trans hp)
        have g1 : (127 : Int) < b.toNat := by omega
        clear hp hna hlo
        go_wp2_with fail
        exact ⟨⟨k + 1, na, by omega, by go_num, rfl, HQ, HKL2, by rw [HE.out]; exact h1, HPAR2, HC1⟩, by simp [intOf]; omega⟩
      · have g1 : (b.toNat : Int) ≤ 127 := by omega
        by_cases hz : b.toNat = 0 ∧ 0 < k
        · have hp := parse_bad (b := b) (acc := acc) (r := s.b.drop (k + 1)) hk9 (by omega) (.inr hz)
          have HPAR2 := Lib.hid (HPAR.out.trans hp)
          have hz2 := hz.2
          obtain rfl : b = 0 := UInt8.toNat_inj.1 (by simpa using hz.1)
          have g3 : (0 : Int) < k := by omega
          have HP : Hid (s.num = (0, RS.bad)) := Lib.hid (by rw [HNUM.out, HPAR2.out])
          obtain rfl : lo = 0 := by simpa using hlo
          clear hp hna hlo hz hz2 h128 g1
          go_wp2_with fail
          refine (rrBad_calls g d _ _ h1.out).mono ?_
          rintro e w4 ⟨rfl, h4, h5⟩
          go_wp2_with fail
          go_ret
          rw [HP.out]
          exact ⟨rfl, h4, HC1.out.trans h5.out (fun _ _ h => h)⟩
        · by_cases hgt : 4611686018427387904 < na
          · have hp := parse_bad (b := b) (acc := acc) (r := s.b.drop (k + 1)) hk9 (by omega) (.inl (by rw [← hlo, ← hna]; exact hgt))
            have HPAR2 := Lib.hid (HPAR.out.trans hp)
            have HP : Hid (s.num = (0, RS.bad)) := Lib.hid (by rw [HNUM.out, HPAR2.out])
            have g2 : (4611686018427387904 : Int) < na := by omega
            have hzz : ¬ (0 : Int) < k ∨ ((0 : Int) < k ∧ ((b.toNat : Int) == 0) = false) := by
             by_cases h0 : 0 < k
             · exact .inr ⟨by omega, by simp; omega⟩
             · exact .inl (by omega)
            clear hp hna hlo hgt hz
            rcases hzz with z1 | ⟨z1, z2⟩
            all_goals
             go_wp2_with fail
             refine (rrBad_calls g d _ _ h1.out).mono ?_
             rintro e w4 ⟨rfl, h4, h5⟩
             go_wp2_with fail
             go_ret
             rw [HP.out]
             exact ⟨rfl, h4, HC1.out.trans h5.out (fun _ _ h => h)⟩
          · have hp := parse_end (b := b) (acc := acc) (r := s.b.drop (k + 1)) hk9 (by omega) (by rw [← hlo, ← hna]; omega) hz
            rw [← hlo, ← hna] at hp
            have HPAR2 := Lib.hid (HPAR.out.trans hp)
            have HP : Hid (s.num = (na, ⟨s.b.drop (k + 1), false⟩)) := Lib.hid (by rw [HNUM.out, HPAR2.out])
            have g2 : (na : Int) ≤ 4611686018427387904 := by omega
            have hzz : ¬ (0 : Int) < k ∨ ((0 : Int) < k ∧ ((b.toNat : Int) == 0) = false) := by
             by_cases h0 : 0 < k
             · exact .inr ⟨by omega, by simp; omega⟩
             · exact .inl (by omega)
            clear hp hna hlo hgt hz
            rcases hzz with z1 | ⟨z1, z2⟩
            all_goals
             go_wp2_with fail
             go_ret
             rw [HP.out]
             exact ⟨rfl, h1, HC1⟩
set_option maxRecDepth 100000 in
theorem rrWhole_calls (g d : Nat) (s : RS) (w : World) (h : RRAt w g d s) (hl : s.b.length ≤ 140737488351232) :
    Calls Tryz.prog 88 #[.pointer (some ⟨g, 0, none⟩)] w fun e w' => e = .returned (.bool (!s.e && decide (s.b = []))) ∧ w' = w := by
 obtain ⟨⟨A, n, c, hn, hnc, hb, _⟩, _⟩ := h
 have hc0 : w.cell? ⟨g, 0, none⟩ = some (.slice A n c) := hb.cell 0
 have hc1 : w.cell? ⟨g, 1, none⟩ = some (.bool s.e) := hb.cell 1
 have hn9 : n ≤ 9223372036854775807 := by omega
 have HN := Lib.hid hn
 clear hb hn hl hnc
 rcases he : s.e with _ | _
 · rw [he] at hc1
   have hq : ((n : Int) == 0) = decide (s.b = []) := by
    have := HN.out
    rcases hb0 : s.b with _ | ⟨x, l⟩
    · rw [hb0] at this
      simp at this
      simp [this]
    · rw [hb0] at this
      simp at this
      simp
      omega
   rw [← hq]
   clear he hq
   go_enter Tryz.func88, Tryz.ntmps88
   go_wp2_with fail
   go_ret
   exact ⟨by simp, rfl⟩
 · rw [he] at hc1
   clear he
   go_enter Tryz.func88, Tryz.ntmps88
   go_wp2_with fail
   go_ret
   exact ⟨by simp, rfl⟩
end Go.Proofs.YtgjnjhhhbkidbaaGreat
end
section
open Go Go.RowKit
namespace Go.Proofs.YtgjnjhhhbkidbaaGreat
theorem rrBytes_calls (g d : Nat) (s : RS) (w : World) (h : RRAt w g d s) (hl : s.b.length ≤ 140737488351232) :
    Calls Tryz.prog 89 #[.pointer (some ⟨g, 0, none⟩)] w fun e w' => ∃ A n c, e = .returned (.slice A n c) ∧ Hid (n = s.row.1.length) ∧
     Hid (Own w' 5 1 A n c (bs s.row.1)) ∧ Hid (RRAt w' g d s.row.2) ∧ Hid (Chg (fun k => k = g) w w') ∧ Hid (∀ ad, A = some ad → w.heap.size ≤ ad.block) := by
 have H := Lib.hid h
 have HL := Lib.hid hl
 clear h hl
 go_enter Tryz.func89, Tryz.ntmps89
 go_wp2_with fail
 refine (rrNum_calls g d s _ H.out HL.out).mono ?_
 rintro e w1 ⟨rfl, h1, h2⟩
 have hc2 : w1.cell? ⟨g, 1, none⟩ = some (.bool s.num.2.e) := by
  obtain ⟨⟨_, _, _, _, _, hb1, _⟩, _⟩ := h1.out
  exact hb1.cell 1
 rcases he : s.num.2.e with _ | _
 · rw [he] at hc2
   clear he
   go_wp2_with fail
   refine (rrRaw_calls g d s.num.2 s.num.1 _ h1.out (Nat.le_trans s.num_le HL.out)).mono ?_
   rintro e w2 ⟨A, n, c, rfl, h3, h4, h5, h6, h7⟩
   go_wp2_with fail
   go_ret
   exact ⟨A, n, c, rfl, h3, h4, h5, h2.out.trans h6.out (fun _ _ h => h), fun ad e => by have h8 := h7.out ad e; have h9 := h2.out.size; omega⟩
 · have hrow : s.row = ([], RS.bad) := by
     unfold RS.row RS.raw
     rw [if_pos (.inl he)]
   have hs := RS.eta_bad h1.out.ok he
   rw [hs] at h1
   have HROW := Lib.hid hrow
   rw [he] at hc2
   clear he hs hrow
   go_wp2_with fail
   go_ret
   rw [HROW.out]
   exact ⟨none, 0, 0, rfl, rfl, Own.nil _ _ _, h1, h2, fun ad e => by cases e⟩
end Go.Proofs.YtgjnjhhhbkidbaaGreat
end
