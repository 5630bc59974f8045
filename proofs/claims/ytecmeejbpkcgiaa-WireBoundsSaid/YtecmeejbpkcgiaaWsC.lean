/- Versions and numbers out of their bounds are refused (the law WireBounds). -/
import Derived.Test.YtecmeejbpkcgiaaWsB
import Derived.Test.YtecmeejbpkcgiaaWnB
open Go Go.RowKit
namespace Go.Proofs.Ytecmeejbpkcgiaa
set_option maxRecDepth 100000 in
set_option maxHeartbeats 1600000 in
theorem wireBounds_calls (v e0 s : Int) (w : World) :
    Calls Try.prog 10 #[.int .i64 v, .int .i64 e0, .int .i64 s] w fun e w' => e = .returned (.bool true) ∧ Chg nowhere w w' := by
  have kbT : ∀ w, (Instr.build 45 #[(0, .int .i64 v), (1, .int .i64 e0), (2, .int .i64 s)]).run Try.prog w = .ok (.agg (timL v e0 s zeroH).toArray) w := fun _ => by kernel_rfl
  have kbS : ∀ w, (Instr.build 63 #[(0, .int .i64 v), (1, .int .i64 e0)]).run Try.prog w = .ok (.agg #[.int .i64 v, .int .i64 e0, .slice none 0 0]) w := fun _ => by kernel_rfl
  go_enter Try.func10, Try.ntmps10
  by_cases h1 : 1 ≤ v
  rotate_left
  · have h1n : v < 1 := by omega
    have ht : timB v e0 s = false := by simp [timB, verB, numB, h1]
    have hs : snapB v e0 = false := by simp [snapB, verB, numB, h1]
    go_wp2_with (first | go_skip | ((with_reducible apply wpl_build); (exact kbT _)) | ((with_reducible apply wpl_build); (exact kbS _)))
    refine (EncodeTime_calls v e0 s zeroH _).mono ?_
    rintro e w5 ⟨_, h5⟩
    rw [ht] at h5
    obtain rfl : e = _ := h5
    clear ht
    go_wp2_with (first | go_skip | ((with_reducible apply wpl_build); (exact kbT _)) | ((with_reducible apply wpl_build); (exact kbS _)))
    refine (EncodeSnap0_calls v e0 _).mono ?_
    rintro e w6 ⟨_, h6⟩
    rw [hs] at h6
    obtain rfl : e = _ := h6
    clear hs
    go_wp2_with (first | go_skip)
    refine (wknown_calls _).mono ?_
    rintro e w7 ⟨rfl, _⟩
    go_wp2_with (first | go_skip)
    go_ret
    exact ⟨rfl, (stepN (w0 := w)).chg⟩
  by_cases h2 : v ≤ 1073741824
  rotate_left
  · have h2n : 1073741824 < v := by omega
    have ht : timB v e0 s = false := by simp [timB, verB, numB, h1, h2]
    have hs : snapB v e0 = false := by simp [snapB, verB, numB, h1, h2]
    go_wp2_with (first | go_skip | ((with_reducible apply wpl_build); (exact kbT _)) | ((with_reducible apply wpl_build); (exact kbS _)))
    refine (EncodeTime_calls v e0 s zeroH _).mono ?_
    rintro e w5 ⟨_, h5⟩
    rw [ht] at h5
    obtain rfl : e = _ := h5
    clear ht
    go_wp2_with (first | go_skip | ((with_reducible apply wpl_build); (exact kbT _)) | ((with_reducible apply wpl_build); (exact kbS _)))
    refine (EncodeSnap0_calls v e0 _).mono ?_
    rintro e w6 ⟨_, h6⟩
    rw [hs] at h6
    obtain rfl : e = _ := h6
    clear hs
    go_wp2_with (first | go_skip)
    refine (wknown_calls _).mono ?_
    rintro e w7 ⟨rfl, _⟩
    go_wp2_with (first | go_skip)
    go_ret
    exact ⟨rfl, (stepN (w0 := w)).chg⟩
  by_cases h3 : 0 ≤ e0
  rotate_left
  · have h3n : e0 < 0 := by omega
    have ht : timB v e0 s = false := by simp [timB, verB, numB, h1, h2, h3]
    have hs : snapB v e0 = false := by simp [snapB, verB, numB, h1, h2, h3]
    go_wp2_with (first | go_skip | ((with_reducible apply wpl_build); (exact kbT _)) | ((with_reducible apply wpl_build); (exact kbS _)))
    refine (EncodeTime_calls v e0 s zeroH _).mono ?_
    rintro e w5 ⟨_, h5⟩
    rw [ht] at h5
    obtain rfl : e = _ := h5
    clear ht
    go_wp2_with (first | go_skip | ((with_reducible apply wpl_build); (exact kbT _)) | ((with_reducible apply wpl_build); (exact kbS _)))
    refine (EncodeSnap0_calls v e0 _).mono ?_
    rintro e w6 ⟨_, h6⟩
    rw [hs] at h6
    obtain rfl : e = _ := h6
    clear hs
    go_wp2_with (first | go_skip)
    refine (wknown_calls _).mono ?_
    rintro e w7 ⟨rfl, _⟩
    go_wp2_with (first | go_skip)
    go_ret
    exact ⟨rfl, (stepN (w0 := w)).chg⟩
  by_cases h4 : e0 ≤ 1073741824
  rotate_left
  · have h4n : 1073741824 < e0 := by omega
    have ht : timB v e0 s = false := by simp [timB, verB, numB, h1, h2, h3, h4]
    have hs : snapB v e0 = false := by simp [snapB, verB, numB, h1, h2, h3, h4]
    go_wp2_with (first | go_skip | ((with_reducible apply wpl_build); (exact kbT _)) | ((with_reducible apply wpl_build); (exact kbS _)))
    refine (EncodeTime_calls v e0 s zeroH _).mono ?_
    rintro e w5 ⟨_, h5⟩
    rw [ht] at h5
    obtain rfl : e = _ := h5
    clear ht
    go_wp2_with (first | go_skip | ((with_reducible apply wpl_build); (exact kbT _)) | ((with_reducible apply wpl_build); (exact kbS _)))
    refine (EncodeSnap0_calls v e0 _).mono ?_
    rintro e w6 ⟨_, h6⟩
    rw [hs] at h6
    obtain rfl : e = _ := h6
    clear hs
    go_wp2_with (first | go_skip)
    refine (wknown_calls _).mono ?_
    rintro e w7 ⟨rfl, _⟩
    go_wp2_with (first | go_skip)
    go_ret
    exact ⟨rfl, (stepN (w0 := w)).chg⟩
  by_cases h5 : 1 ≤ s
  rotate_left
  · have h5n : s < 1 := by omega
    have ht : timB v e0 s = false := by simp [timB, verB, numB, h1, h2, h3, h4, h5]
    have hs : snapB v e0 = true := by simp [snapB, verB, numB, h1, h2, h3, h4]
    go_wp2_with (first | go_skip | ((with_reducible apply wpl_build); (exact kbT _)) | ((with_reducible apply wpl_build); (exact kbS _)))
    refine (EncodeTime_calls v e0 s zeroH _).mono ?_
    rintro e w5 ⟨_, h5⟩
    rw [ht] at h5
    obtain rfl : e = _ := h5
    clear ht
    go_wp2_with (first | go_skip | ((with_reducible apply wpl_build); (exact kbT _)) | ((with_reducible apply wpl_build); (exact kbS _)))
    refine (EncodeSnap0_calls v e0 _).mono ?_
    rintro e w6 ⟨_, h6⟩
    rw [hs] at h6
    obtain ⟨A6, n6, c6, rfl, _, _, _⟩ := h6
    clear hs
    go_wp2_with (first | go_skip)
    refine (wknown_calls _).mono ?_
    rintro e w7 ⟨rfl, _⟩
    go_wp2_with (first | go_skip)
    go_ret
    exact ⟨rfl, (stepN (w0 := w)).chg⟩
  by_cases h6 : s ≤ 1073741824
  rotate_left
  · have h6n : 1073741824 < s := by omega
    have ht : timB v e0 s = false := by simp [timB, verB, numB, h1, h2, h3, h4, h5, h6]
    have hs : snapB v e0 = true := by simp [snapB, verB, numB, h1, h2, h3, h4]
    go_wp2_with (first | go_skip | ((with_reducible apply wpl_build); (exact kbT _)) | ((with_reducible apply wpl_build); (exact kbS _)))
    refine (EncodeTime_calls v e0 s zeroH _).mono ?_
    rintro e w5 ⟨_, h5⟩
    rw [ht] at h5
    obtain rfl : e = _ := h5
    clear ht
    go_wp2_with (first | go_skip | ((with_reducible apply wpl_build); (exact kbT _)) | ((with_reducible apply wpl_build); (exact kbS _)))
    refine (EncodeSnap0_calls v e0 _).mono ?_
    rintro e w6 ⟨_, h6⟩
    rw [hs] at h6
    obtain ⟨A6, n6, c6, rfl, _, _, _⟩ := h6
    clear hs
    go_wp2_with (first | go_skip)
    refine (wknown_calls _).mono ?_
    rintro e w7 ⟨rfl, _⟩
    go_wp2_with (first | go_skip)
    go_ret
    exact ⟨by simp [h6], (stepN (w0 := w)).chg⟩
  have ht : timB v e0 s = true := by simp [timB, verB, numB, h1, h2, h3, h4, h5, h6]
  have hs : snapB v e0 = true := by simp [snapB, verB, numB, h1, h2, h3, h4]
  go_wp2_with (first | go_skip | ((with_reducible apply wpl_build); (exact kbT _)) | ((with_reducible apply wpl_build); (exact kbS _)))
  refine (EncodeTime_calls v e0 s zeroH _).mono ?_
  rintro e w5 ⟨_, h5⟩
  rw [ht] at h5
  obtain ⟨A5, n5, c5, rfl, _, _, _⟩ := h5
  clear ht
  go_wp2_with (first | go_skip | ((with_reducible apply wpl_build); (exact kbT _)) | ((with_reducible apply wpl_build); (exact kbS _)))
  refine (EncodeSnap0_calls v e0 _).mono ?_
  rintro e w6 ⟨_, h6⟩
  rw [hs] at h6
  obtain ⟨A6, n6, c6, rfl, _, _, _⟩ := h6
  clear hs
  go_wp2_with (first | go_skip)
  refine (wknown_calls _).mono ?_
  rintro e w7 ⟨rfl, _⟩
  go_wp2_with (first | go_skip)
  go_ret
  exact ⟨rfl, (stepN (w0 := w)).chg⟩
end Go.Proofs.Ytecmeejbpkcgiaa
