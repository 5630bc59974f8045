/- BusFull. -/
import Derived.Test.YthoipeamdolfgaaBsK
open Go Go.RowKit
namespace Go.Proofs.Ythoipeamdolfgaa
open Hp
theorem send_few {fr : List Fr} {k : Nat} (h : k ≤ 2047) (hl : fr.length < 64) (cm : Nat) : sendS fr ((k : Int), []) = (0, insF fr ((k : Int), [])) ∧ sendC fr ((k : Int), []) cm = cm + 1 := by
  have e : sendS fr ((k : Int), []) = (0, insF fr ((k : Int), [])) := by
    unfold sendS
    rw [if_neg (by simp; omega), if_neg (by omega)]
  exact ⟨e, by unfold sendC; rw [e]; rfl⟩
theorem send_full {fr : List Fr} {k : Nat} (h : k ≤ 2047) (hl : 64 ≤ fr.length) (cm : Nat) : sendS fr ((k : Int), []) = (12, fr) ∧ sendC fr ((k : Int), []) cm = cm := by
  have e : sendS fr ((k : Int), []) = (12, fr) := by
    unfold sendS
    rw [if_neg (by simp; omega), if_pos hl]
  exact ⟨e, by unfold sendC; rw [e]; rfl⟩
theorem send_bad {fr : List Fr} {x : Fr} (h : x.1 < 0 ∨ 2047 < x.1 ∨ 8 < x.2.length) (cm : Nat) : sendS fr x = (1, fr) ∧ sendC fr x cm = cm := by
  have e : sendS fr x = (1, fr) := by
    unfold sendS
    rw [if_pos h]
  exact ⟨e, by unfold sendC; rw [e]; rfl⟩
set_option maxRecDepth 100000 in
set_option maxHeartbeats 1600000 in
theorem busFull_calls (n id : Int) {A : Option Addr} {m c : Nat} {d : List UInt8} {w : World} [hd : HR w A (bs d)] (hm : d.length = m) (hmax : m ≤ 9223372036854775807) :
    Calls Try.prog 7 #[.int .i64 n, .int .i64 id, .slice A m c] w fun e w' => e = .returned (.bool true) ∧ Chg nowhere w w' := by
  have hcut : (n < 0 ∨ (¬ n < 0 ∧ 80 < n) ∨ (¬ n < 0 ∧ ¬ 80 < n ∧ (100 : Int) < m)) ∨ (¬ n < 0 ∧ ¬ 80 < n ∧ ¬ (100 : Int) < m) := by omega
  rcases hcut with hq | ⟨q1, q2, q3⟩
  · go_enter Try.func7, Try.ntmps7
    rcases hq with q1 | ⟨q1, q2⟩ | ⟨q1, q2, q3⟩
    all_goals
      go_wp2_with fail
      go_ret
      exact ⟨rfl, Chg.refl _ _⟩
  · obtain ⟨N, rfl⟩ : ∃ N : Nat, n = (N : Int) := ⟨n.toNat, by omega⟩
    have hN : N ≤ 80 := by omega
    go_enter Try.func7, Try.ntmps7
    go_wp2_with fail
    refine (newB_calls w).mono ?_
    rintro e w1 ⟨z, rfl, hs1, hB1, hz⟩
    have hS1 : ∀ x, only z x → w.heap.size ≤ x := fun x hx => by rw [show x = z from hx]; exact hz
    go_wp2_with fail
    go_loopw [8] (fun iv wr => ∃ (k cm : Nat) (S : Nat → Prop) (fr : List Fr), k ≤ N ∧ cm ≤ k ∧ iv = .int .i64 (k : Int) ∧ BS wr z S cm fr ∧ Chg nowhere w wr ∧ (∀ x, S x → w.heap.size ≤ x) ∧ Hid (fr.length = min k 64)) (fun iv _ => N - (intOf iv).toNat)
    case atStart => exact ⟨0, 0, _, _, Nat.zero_le _, Nat.le_refl _, rfl, hB1, hs1.chg, hS1, Lib.hid rfl⟩
    case round =>
      obtain ⟨k, cm, S, fr, hk, hcm, rfl, hB, hn, hS, HF⟩ := hrel
      have stw : Step nowhere w wr := ⟨hn⟩
      by_cases hlt : k < N
      · have hltI : (k : Int) < N := by omega
        by_cases h64 : k < 64
        · have h64I : (k : Int) < 64 := by omega
          have hfl : fr.length = k := by rw [HF.out]; omega
          obtain ⟨e1, e2⟩ := send_few (fr := fr) (k := k) (by omega) (by omega) cm
          have HS := Lib.hid (sendE (k : Int) (A := none) (c := 0) (d := []) w hB hn hS (by omega) rfl (by omega) (by decide) e1 e2)
          have HF2 := Lib.hid (show (insF fr ((k : Int), [])).length = min (k + 1) 64 by rw [insF_len, hfl]; omega)
          clear hfl e1 e2
          go_wp2_with (first | go_skip | ((with_reducible apply wpl_build); (exact run_frameI _ _)) | ((with_reducible apply (wpl_guard (op := .build _ _))); (exact rfl)))
          refine HS.out.mono ?_
          rintro e w2 ⟨rfl, S2, hB2, hn2, hS2, _⟩
          go_wp2_with fail
          refine ⟨⟨k + 1, cm + 1, S2, _, by omega, by omega, rfl, hB2, hn2, hS2, HF2⟩, by simp [intOf]; omega⟩
        · have h64I : ¬ (k : Int) < 64 := by omega
          have hfl : fr.length = 64 := by rw [HF.out]; omega
          obtain ⟨e1, e2⟩ := send_full (fr := fr) (k := k) (by omega) (by omega) cm
          have HS := Lib.hid (sendE (k : Int) (A := none) (c := 0) (d := []) w hB hn hS (by omega) rfl (by omega) (by decide) e1 e2)
          have HF2 := Lib.hid (show fr.length = min (k + 1) 64 by rw [hfl]; omega)
          clear hfl e1 e2
          go_wp2_with (first | go_skip | ((with_reducible apply wpl_build); (exact run_frameI _ _)) | ((with_reducible apply (wpl_guard (op := .build _ _))); (exact rfl)))
          refine HS.out.mono ?_
          rintro e w2 ⟨rfl, S2, hB2, hn2, hS2, _⟩
          go_wp2_with fail
          refine ⟨⟨k + 1, cm, S2, _, by omega, by omega, rfl, hB2, hn2, hS2, HF2⟩, by simp [intOf]; omega⟩
      · obtain rfl : k = N := by omega
        have hfl : fr.length ≤ 64 := by rw [HF.out]; omega
        have HM := Lib.hid (show min (k : Int) 64 = (fr.length : Int) by rw [HF.out]; omega)
        have hq : (id < 0 ∨ (¬ id < 0 ∧ 2047 < id) ∨ (¬ id < 0 ∧ ¬ 2047 < id ∧ (8 : Int) < m)) ∨ (¬ id < 0 ∧ ¬ 2047 < id ∧ ¬ (8 : Int) < m) := by omega
        rcases hq with hq | ⟨r1, r2, r3⟩
        · obtain ⟨e1, e2⟩ := send_bad (fr := fr) (x := (id, d)) (by show id < 0 ∨ 2047 < id ∨ 8 < d.length; omega) cm
          have HS := Lib.hid (sendE id (A := A) (c := c) (d := d) w hB hn hS (by omega) hm (by omega) hmax e1 e2)
          clear e1 e2
          rcases hq with r1 | ⟨r1, r2⟩ | ⟨r1, r2, r3⟩
          all_goals
            go_wp2_with (first | go_skip | ((with_reducible apply (wpl_guard (op := .build _ _))); (exact rfl)) | ((with_reducible apply wpl_build); (exact run_frameD _ _ _ _ _)))
            refine HS.out.mono ?_
            rintro e w2 ⟨rfl, S2, hB2, hn2, hS2, _⟩
            go_wp2_with fail
            refine (lenB_calls hB2).mono ?_
            rintro e w3 ⟨rfl, rfl⟩
            go_wp2_with ((with_reducible apply wpl_mineq); (exact rfl); (exact rfl); (exact HM.out))
            refine (known_calls _).mono ?_
            rintro e w4 ⟨rfl, hs4⟩
            go_wp2_with fail
            go_ret
            exact ⟨rfl, hn2.trans hs4.chg (fun _ _ hk => hk)⟩
        · go_wp2_with fail
          refine (lenB_calls hB).mono ?_
          rintro e w3 ⟨rfl, rfl⟩
          go_wp2_with ((with_reducible apply wpl_mineq); (exact rfl); (exact rfl); (exact HM.out))
          refine (known_calls _).mono ?_
          rintro e w4 ⟨rfl, hs4⟩
          go_wp2_with fail
          go_ret
          exact ⟨rfl, hn.trans hs4.chg (fun _ _ hk => hk)⟩
end Go.Proofs.Ythoipeamdolfgaa
