/- TgK -/
import Derived.Test.YtgjnjhhhbkidbaaGreatUdTgJ
open Go Go.RowKit
namespace Go.Proofs.YtgjnjhhhbkidbaaGreat
def tgsOk (nm : List UInt8) (v e0 : Int) (P : List TargetR) (D : List DeleR) : Bool := nameL nm && verB v && numB e0 && decide (P.length ≤ 16) && P.all tgOk && riseT P P.length && decide (D.length ≤ 16) && D.all dlOk && allS (namesD D) D.length
set_option maxRecDepth 100000 in
set_option maxHeartbeats 6400000 in
theorem isTargets_calls (nm : List UInt8) (v e0 : Int) {A C : Option Addr} {n c m d : Nat} {P : List TargetR} {D : List DeleR} {w : World} [hr : HR w A (cellsOf P)] [hq : HR w C (cellsOf D)] (hl : P.length = n) (hm : D.length = m) (hmax : n ≤ 9223372036854775807) (hmaxm : m ≤ 9223372036854775807) (hD : ∀ k ∈ D, DInW w k) :
    Calls Tryz.prog 62 #[.agg #[.string (strL nm), .int .i64 v, .int .i64 e0, .slice A n c, .slice C m d]] w fun e w' => e = .returned (.bool (tgsOk nm v e0 P D)) ∧ Step nowhere w w' := by
  have HL := Lib.hid hl
  have HM := Lib.hid hm
  have HDI := Lib.hid hD
  obtain ⟨R, hR⟩ : ∃ R, R = tgsOk nm v e0 P D := ⟨_, rfl⟩
  have hR2 := hR
  rw [tgsOk] at hR2
  rw [← hR]
  obtain ⟨B0, hB0⟩ : ∃ B, B = nameL nm := ⟨_, rfl⟩
  obtain ⟨B1, hB1⟩ : ∃ B, B = verB v := ⟨_, rfl⟩
  obtain ⟨B2, hB2⟩ : ∃ B, B = numB e0 := ⟨_, rfl⟩
  obtain ⟨B3, hB3⟩ : ∃ B, B = decide (P.length ≤ 16) := ⟨_, rfl⟩
  obtain ⟨B4, hB4⟩ : ∃ B, B = P.all tgOk := ⟨_, rfl⟩
  obtain ⟨B5, hB5⟩ : ∃ B, B = riseT P P.length := ⟨_, rfl⟩
  obtain ⟨B6, hB6⟩ : ∃ B, B = decide (D.length ≤ 16) := ⟨_, rfl⟩
  obtain ⟨B7, hB7⟩ : ∃ B, B = D.all dlOk := ⟨_, rfl⟩
  obtain ⟨B8, hB8⟩ : ∃ B, B = allS (namesD D) D.length := ⟨_, rfl⟩
  rw [← hB0, ← hB1, ← hB2, ← hB3, ← hB4, ← hB5, ← hB6, ← hB7, ← hB8] at hR2
  have HR0 := Lib.hid hR2
  have HB0 := Lib.hid hB0
  have HB1 := Lib.hid hB1
  have HB2 := Lib.hid hB2
  have HB3 := Lib.hid hB3
  have HB4 := Lib.hid hB4
  have HB5 := Lib.hid hB5
  have HB6 := Lib.hid hB6
  have HB7 := Lib.hid hB7
  have HB8 := Lib.hid hB8
  clear hD hl hm hR hR2 hB0 hB1 hB2 hB3 hB4 hB5 hB6 hB7 hB8
  go_enter Tryz.func62, Tryz.ntmps62
  go_wp2_with (first | ((with_reducible apply (wpl_box_agg (dst := some 1))); (exact rfl); intro zt wzt _ _ _) | ((with_reducible apply wpl_loadcellN); (exact rfl); infer_instance; (exact rfl)))
  refine (wname_calls (strL nm) nm rfl _).mono ?_
  rw [← HB0.out]
  rintro e w10 ⟨rfl, _⟩
  cases B0
  case false =>
    have HF : Hid (R = false) := Lib.hid (by rw [HR0.out]; simp)
    go_wp2_with (first | go_skip)
    go_ret
    rw [HF.out]
    exact ⟨rfl, stepN⟩
  go_wp2_with (first | ((with_reducible apply (wpl_guard (op := .load _ _))); (exact rfl)) | ((with_reducible apply (wpl_guard (op := .fieldAddr _ _ _))); (exact rfl)) | ((with_reducible apply wpl_loadcellN); (exact rfl); infer_instance; (exact rfl)))
  refine (version_calls v _).mono ?_
  rw [← HB1.out]
  rintro e w11 ⟨rfl, _⟩
  cases B1
  case false =>
    have HF : Hid (R = false) := Lib.hid (by rw [HR0.out]; simp)
    go_wp2_with (first | go_skip)
    go_ret
    rw [HF.out]
    exact ⟨rfl, stepN⟩
  go_wp2_with (first | ((with_reducible apply (wpl_guard (op := .load _ _))); (exact rfl)) | ((with_reducible apply (wpl_guard (op := .fieldAddr _ _ _))); (exact rfl)) | ((with_reducible apply wpl_loadcellN); (exact rfl); infer_instance; (exact rfl)))
  refine (number_calls e0 _).mono ?_
  rw [← HB2.out]
  rintro e w12 ⟨rfl, _⟩
  cases B2
  case false =>
    by_cases h2 : n ≤ 16
    all_goals
      have h2I := h2
      have HF : Hid (R = false) := Lib.hid (by rw [HR0.out]; simp)
      go_wp2_with (first | go_skip)
      go_ret
      rw [HF.out]
      exact ⟨rfl, stepN⟩
  by_cases hc3 : n ≤ 16
  rotate_left
  focus
    have hcI : ¬ (n : Int) ≤ 16 := by omega
    have HF : Hid (R = false) := Lib.hid (by rw [HR0.out, HB3.out, decide_eq_false (show ¬ P.length ≤ 16 by have := HL.out; omega)]; simp)
    go_wp2_with (first | go_skip | ((with_reducible apply (wpl_guard (op := .call _))); (exact rfl)) | ((with_reducible apply (wpl_guard (op := .load _ _))); (exact rfl)) | ((with_reducible apply (wpl_guard (op := .fieldAddr _ _ _))); (exact rfl)) | ((with_reducible apply wpl_loadcellN); (exact rfl); infer_instance; (exact rfl)))
    go_ret
    rw [HF.out]
    exact ⟨rfl, stepN⟩
  have hcI3 : (n : Int) ≤ 16 := by omega
  have HRc3 : Hid (B3 = true) := Lib.hid (by rw [HB3.out, decide_eq_true (show P.length ≤ 16 by have := HL.out; omega)])
  go_wp2_with (first | ((with_reducible apply (wpl_guard (op := .load _ _))); (exact rfl)) | ((with_reducible apply (wpl_guard (op := .fieldAddr _ _ _))); (exact rfl)) | ((with_reducible apply wpl_loadcellN); (exact rfl); infer_instance; (exact rfl)))
  refine (allT_calls (K := P) HL.out hmax).mono ?_
  rw [← HB4.out]
  rintro e w14 ⟨rfl, _⟩
  cases B4
  case false =>
    have HF : Hid (R = false) := Lib.hid (by rw [HR0.out]; simp)
    go_wp2_with (first | go_skip)
    go_ret
    rw [HF.out]
    exact ⟨rfl, stepN⟩
  go_wp2_with (first | ((with_reducible apply (wpl_guard (op := .load _ _))); (exact rfl)) | ((with_reducible apply (wpl_guard (op := .fieldAddr _ _ _))); (exact rfl)) | ((with_reducible apply wpl_loadcellN); (exact rfl); infer_instance; (exact rfl)))
  refine (riseT_calls (P := P) HL.out hmax).mono ?_
  rw [← HB5.out]
  rintro e w15 ⟨rfl, _⟩
  cases B5
  case false =>
    by_cases h5 : m ≤ 16
    all_goals
      have h5I := h5
      have HF : Hid (R = false) := Lib.hid (by rw [HR0.out]; simp)
      go_wp2_with (first | go_skip)
      go_ret
      rw [HF.out]
      exact ⟨rfl, stepN⟩
  by_cases hc6 : m ≤ 16
  rotate_left
  focus
    have hcI : ¬ (m : Int) ≤ 16 := by omega
    have HF : Hid (R = false) := Lib.hid (by rw [HR0.out, HB6.out, decide_eq_false (show ¬ D.length ≤ 16 by have := HM.out; omega)]; simp)
    go_wp2_with (first | go_skip | ((with_reducible apply (wpl_guard (op := .call _))); (exact rfl)) | ((with_reducible apply (wpl_guard (op := .load _ _))); (exact rfl)) | ((with_reducible apply (wpl_guard (op := .fieldAddr _ _ _))); (exact rfl)) | ((with_reducible apply wpl_loadcellN); (exact rfl); infer_instance; (exact rfl)))
    go_ret
    rw [HF.out]
    exact ⟨rfl, stepN⟩
  have hcI6 : (m : Int) ≤ 16 := by omega
  have HRc6 : Hid (B6 = true) := Lib.hid (by rw [HB6.out, decide_eq_true (show D.length ≤ 16 by have := HM.out; omega)])
  go_wp2_with (first | ((with_reducible apply (wpl_guard (op := .load _ _))); (exact rfl)) | ((with_reducible apply (wpl_guard (op := .fieldAddr _ _ _))); (exact rfl)) | ((with_reducible apply wpl_loadcellN); (exact rfl); infer_instance; (exact rfl)))
  refine (allDl_calls (K := D) (fun r hr => DInW.nw (w0 := w) (HDI.out r hr)) HM.out (by omega)).mono ?_
  rw [← HB7.out]
  rintro e w17 ⟨rfl, _⟩
  cases B7
  case false =>
    have HF : Hid (R = false) := Lib.hid (by rw [HR0.out]; simp)
    go_wp2_with (first | go_skip)
    go_ret
    rw [HF.out]
    exact ⟨rfl, stepN⟩
  go_wp2_with (first | ((with_reducible apply (wpl_guard (op := .load _ _))); (exact rfl)) | ((with_reducible apply (wpl_guard (op := .fieldAddr _ _ _))); (exact rfl)) | ((with_reducible apply wpl_loadcellN); (exact rfl); infer_instance; (exact rfl)))
  refine (names_calls (K := D) HM.out (by omega)).mono ?_
  rintro e w30 ⟨A9, c9, rfl, hc9, hr9, _⟩
  have HC9 := Lib.hid hc9
  go_wp2_with fail
  refine (unlikeS_calls (l := namesD D) (by rw [namesD, List.length_map]; exact HM.out) HC9.out (by omega)).mono ?_
  have HB9 : Hid (allS (namesD D) m = B8) := Lib.hid (by rw [HB8.out, HM.out])
  rw [HB9.out]
  rintro e w31 ⟨rfl, _⟩
  have HF : Hid (R = B8) := Lib.hid (by rw [HR0.out, HRc3.out, HRc6.out]; simp)
  go_wp2_with fail
  go_ret
  rw [HF.out]
  exact ⟨rfl, stepN⟩
end Go.Proofs.YtgjnjhhhbkidbaaGreat
