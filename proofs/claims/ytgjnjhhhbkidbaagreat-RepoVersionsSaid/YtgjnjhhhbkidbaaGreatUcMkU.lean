/- MkC, MkU -/
import Derived.Test.YtgjnjhhhbkidbaaGreatUcMkB
import Derived.Test.YtgjnjhhhbkidbaaGreatUcBase
section
open Go Go.RowKit
namespace Go.Proofs.YtgjnjhhhbkidbaaGreat
theorem path_lo (l : List H32) (f t i : Nat) (h : f + 2 ≤ t) (ht : t ≤ l.length) (hi : i < f + halfN (t - f)) (hf : f ≤ i) : pathL (sub l f t) (i - f) = pathL (sub l f (f + halfN (t - f))) (i - f) ++ [rootL (sub l (f + halfN (t - f)) t)] := by
 have hh := halfN_in (t - f) (by omega)
 have hl := sub_len l f t ht
 rw [pathL_lo _ _ (by omega) (by rw [hl]; omega), hl]
 have e1 := sub_take l f (f + halfN (t - f)) t (by omega) (by omega)
 have e2 := sub_drop l f (f + halfN (t - f)) t (by omega)
 rw [show f + halfN (t - f) - f = halfN (t - f) by omega] at e1 e2
 rw [e1, e2]
theorem path_hi (l : List H32) (f t i : Nat) (h : f + 2 ≤ t) (ht : t ≤ l.length) (hi : f + halfN (t - f) ≤ i) : pathL (sub l f t) (i - f) = pathL (sub l (f + halfN (t - f)) t) (i - (f + halfN (t - f))) ++ [rootL (sub l f (f + halfN (t - f)))] := by
 have hh := halfN_in (t - f) (by omega)
 have hl := sub_len l f t ht
 rw [pathL_hi _ _ (by omega) (by rw [hl]; omega), hl]
 have e1 := sub_take l f (f + halfN (t - f)) t (by omega) (by omega)
 have e2 := sub_drop l f (f + halfN (t - f)) t (by omega)
 rw [show f + halfN (t - f) - f = halfN (t - f) by omega] at e1 e2
 rw [e1, e2, show i - f - halfN (t - f) = i - (f + halfN (t - f)) by omega]
set_option maxRecDepth 100000 in
set_option maxHeartbeats 1600000 in
theorem path_calls : ∀ (d : Nat) (A : Option Addr) (n c : Nat) (l : List H32) (w : World) (_ : HR w A (cellsOf l)) (f t i : Nat), t - f = d → f < t → t ≤ n → l.length = n → n ≤ 1000 → f ≤ i → i < t →
    Calls Tryz.prog 105 #[.slice A n c, .int .i64 (f : Int), .int .i64 (t : Int), .int .i64 (i : Int)] w fun e w' => ∃ A' c', e = .returned (.slice A' (pathL (sub l f t) (i - f)).length c') ∧ Step nowhere w w' ∧ NewA w A' ∧ HO w' 23 32 A' (pathL (sub l f t) (i - f)).length c' (cellsOf (pathL (sub l f t) (i - f))) := by
 intro d
 induction d using Nat.strongRecOn with
 | _ d ih =>
  intro A n c l w hr f t i hd hft htn hl hn hfi hit
  have HIH := Lib.hid ih
  clear ih
  obtain ⟨P, hP⟩ : ∃ P, P = pathL (sub l f t) (i - f) := ⟨_, rfl⟩
  rw [← hP]
  by_cases h1 : t - f = 1
  · have hs : P = [] := by rw [hP]; exact pathL_small _ _ (by rw [sub_len l f t (by omega)]; omega)
    have hb : ((t : Int) - f == 1) = true := by simp; omega
    rw [hs]
    clear hs h1 hd hP
    go_enter Tryz.func105, Tryz.ntmps105
    go_wp2_with fail
    go_ret
    exact ⟨none, 0, rfl, stepN, NewA.of_none _, ⟨Own.nil _ _ _⟩⟩
  · have hb : ((t : Int) - f == 1) = false := by simp; omega
    have hh := halfN_in (t - f) (by omega)
    obtain ⟨M, hM⟩ : ∃ M, M = f + halfN (t - f) := ⟨_, rfl⟩
    have hM1 : f < M ∧ M < t := by omega
    obtain ⟨hM1, hM2⟩ := hM1
    have HM := Lib.hid hM
    have hdm1 : M - f < d := by omega
    have hdm2 : t - M < d := by omega
    have hf2 : f + 2 ≤ t := by omega
    by_cases him : i < M
    · have himI : (i : Int) < M := by omega
      have hs := path_lo l f t i hf2 (by omega) (by omega) hfi
      rw [← hM, ← hP] at hs
      obtain ⟨P1, hP1⟩ : ∃ x, x = pathL (sub l f M) (i - f) := ⟨_, rfl⟩
      obtain ⟨R2, hR2⟩ : ∃ x, x = rootL (sub l M t) := ⟨_, rfl⟩
      have hlen : P1.length ≤ 1000 := by have := pathL_len (sub l f M) (i - f); rw [hP1, ]; rw [sub_len l f M (by omega)] at this; omega
      rw [← hP1, ← hR2] at hs
      have HP1 := Lib.hid hP1
      have HR2 := Lib.hid hR2
      have kb := run_oneH R2
      rw [hs]
      clear hs hM h1 hd hh hP1 hR2 hP
      go_enter Tryz.func105, Tryz.ntmps105
      go_wp2_with fail
      refine (middle_calls f t _ hf2 (by omega)).mono ?_
      rw [← HM.out]
      rintro e w1 ⟨rfl, _⟩
      go_wp2_with fail
      refine (HIH.out (M - f) hdm1 A n c l _ inferInstance f M i rfl hM1 (by omega) hl hn hfi him).mono ?_
      rw [← HP1.out]
      rintro e w2 ⟨A1, c1, rfl, _, hnA, _⟩
      have _ : NewA w A1 := NewA.mono hnA
      go_wp2_with fail
      refine (root_calls (t - M) A n c l _ inferInstance M t rfl hM2 htn hl hn).mono ?_
      rw [← HR2.out]
      rintro e w3 ⟨rfl, _⟩
      go_wp2_with (first | ((with_reducible apply wpl_bslice); exact kb _; intro zb wb _ _ _) | ((with_reducible apply wpl_appendH); exact rfl; exact rfl; infer_instance; (first | exact inferInstance | exact ⟨Own.nil _ _ _⟩); infer_instance; (first | (with_reducible assumption) | omega); intro A' c' wa _ _ _ hcap))
      go_ret
      rw [show (P1 ++ [R2]).length = P1.length + 1 by simp]
      exact ⟨_, _, rfl, stepN, inferInstance, inferInstance⟩
    · have himI : ¬ (i : Int) < M := by omega
      have hs := path_hi l f t i hf2 (by omega) (by omega)
      rw [← hM, ← hP] at hs
      obtain ⟨P1, hP1⟩ : ∃ x, x = pathL (sub l M t) (i - M) := ⟨_, rfl⟩
      obtain ⟨R2, hR2⟩ : ∃ x, x = rootL (sub l f M) := ⟨_, rfl⟩
      have hlen : P1.length ≤ 1000 := by have := pathL_len (sub l M t) (i - M); rw [hP1, ]; rw [sub_len l M t (by omega)] at this; omega
      rw [← hP1, ← hR2] at hs
      have HP1 := Lib.hid hP1
      have HR2 := Lib.hid hR2
      have kb := run_oneH R2
      have hMi : M ≤ i := by omega
      rw [hs]
      clear hs hM h1 hd hh hP1 hR2 hP him
      go_enter Tryz.func105, Tryz.ntmps105
      go_wp2_with fail
      refine (middle_calls f t _ hf2 (by omega)).mono ?_
      rw [← HM.out]
      rintro e w1 ⟨rfl, _⟩
      go_wp2_with fail
      refine (HIH.out (t - M) hdm2 A n c l _ inferInstance M t i rfl hM2 htn hl hn hMi hit).mono ?_
      rw [← HP1.out]
      rintro e w2 ⟨A1, c1, rfl, _, hnA, _⟩
      have _ : NewA w A1 := NewA.mono hnA
      go_wp2_with fail
      refine (root_calls (M - f) A n c l _ inferInstance f M rfl hM1 (by omega) hl hn).mono ?_
      rw [← HR2.out]
      rintro e w3 ⟨rfl, _⟩
      go_wp2_with (first | ((with_reducible apply wpl_bslice); exact kb _; intro zb wb _ _ _) | ((with_reducible apply wpl_appendH); exact rfl; exact rfl; infer_instance; (first | exact inferInstance | exact ⟨Own.nil _ _ _⟩); infer_instance; (first | (with_reducible assumption) | omega); intro A' c' wa _ _ _ hcap))
      go_ret
      rw [show (P1 ++ [R2]).length = P1.length + 1 by simp]
      exact ⟨_, _, rfl, stepN, inferInstance, inferInstance⟩
/-- the way up of any place -/
def pathA (l : List H32) (i : Int) : List H32 := if i < 0 ∨ (l.length : Int) ≤ i then [] else pathL l i.toNat
theorem pathA_len (l : List H32) (i : Int) : (pathA l i).length ≤ l.length := by
 unfold pathA
 split
 · simp
 · exact pathL_len _ _
set_option maxRecDepth 100000 in
set_option maxHeartbeats 1600000 in
theorem pathC {A : Option Addr} {n c : Nat} {l : List H32} {w : World} [hr : HR w A (cellsOf l)] (i : Int) (hl : l.length = n) (hn : n ≤ 1000) :
    Calls Tryz.prog 59 #[.slice A n c, .int .i64 i] w fun e w' => ∃ A' c', e = .returned (.slice A' (pathA l i).length c') ∧ Step nowhere w w' ∧ NewA w A' ∧ HO w' 23 32 A' (pathA l i).length c' (cellsOf (pathA l i)) := by
 by_cases h0 : i < 0
 · have hs : pathA l i = [] := if_pos (.inl h0)
   rw [hs]
   clear hs
   go_enter Tryz.func59, Tryz.ntmps59
   go_wp2_with fail
   go_ret
   exact ⟨none, 0, rfl, stepN, NewA.of_none _, ⟨Own.nil _ _ _⟩⟩
 by_cases h1 : (n : Int) ≤ i
 · have hs : pathA l i = [] := if_pos (.inr (by omega))
   rw [hs]
   clear hs
   go_enter Tryz.func59, Tryz.ntmps59
   go_wp2_with fail
   go_ret
   exact ⟨none, 0, rfl, stepN, NewA.of_none _, ⟨Own.nil _ _ _⟩⟩
 · obtain ⟨j, hj⟩ : ∃ j : Nat, i = (j : Int) := ⟨i.toNat, by omega⟩
   subst hj
   have hjn : j < n := by omega
   have hs : pathA l (j : Int) = pathL (sub l 0 n) (j - 0) := by rw [pathA, if_neg (by omega), ← hl, sub_all]; rfl
   obtain ⟨P, hP⟩ : ∃ P, P = pathL (sub l 0 n) (j - 0) := ⟨_, rfl⟩
   have HP := Lib.hid hP
   rw [hs, ← hP]
   clear hs hP
   go_enter Tryz.func59, Tryz.ntmps59
   go_wp2_with fail
   refine (path_calls n A n c l _ inferInstance 0 n j (by omega) (by omega) (Nat.le_refl _) hl hn (by omega) hjn).mono ?_
   rw [← HP.out]
   rintro e w2 ⟨A1, c1, rfl, _, hnA, _⟩
   have _ : NewA w A1 := NewA.mono hnA
   go_wp2_with fail
   go_ret
   exact ⟨A1, c1, rfl, stepN, inferInstance, inferInstance⟩
end Go.Proofs.YtgjnjhhhbkidbaaGreat
end
section
open Go Go.RowKit
namespace Go.Proofs.YtgjnjhhhbkidbaaGreat
end Go.Proofs.YtgjnjhhhbkidbaaGreat
end
