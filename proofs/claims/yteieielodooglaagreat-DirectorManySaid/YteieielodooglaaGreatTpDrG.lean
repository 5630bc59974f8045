/- DrG -/
import Derived.Test.YteieielodooglaaGreatTpDrF
open Go Go.RowKit
namespace Go.Proofs.YteieielodooglaaGreat
/-- the one of this place -/
def mE (i : Nat) : EnrR := ((EnrR.new [b8 (97 + (i : Int))]).setW [104]).setP zeroH
def mL : Nat → List EnrR
  | 0 => []
  | k + 1 => mL k ++ [mE k]
theorem mL_len : ∀ k, (mL k).length = k
  | 0 => rfl
  | k + 1 => by rw [mL, List.length_append, mL_len k]; rfl
theorem mL_at (k i : Nat) (h : i < k) : gt (mL k) i = mE i := by
  induction k with
  | zero => omega
  | succ k ih =>
    rw [mL]
    by_cases e : i = k
    · subst e
      conv => lhs; rw [show i = (mL i).length from (mL_len i).symm]
      rw [mL_len]
      have h2 := gt_new (mL i) (mE i)
      rwa [mL_len] at h2
    · have h1 := ih (by omega)
      rw [← h1]
      unfold gt
      rw [List.getD_eq_getElem?_getD, List.getD_eq_getElem?_getD, List.getElem?_append_left (by rw [mL_len]; omega)]
theorem mE_less (i j : Nat) (h : i < j) (h9 : j < 10) : Op.bytesLess [b8 (97 + (i : Int))] [b8 (97 + (j : Int))] = true := by
  have h1 : ∀ j : Nat, j < 10 → ∀ i : Nat, i < j → Op.bytesLess [b8 (97 + (i : Int))] [b8 (97 + (j : Int))] = true := by decide +kernel
  exact h1 j h9 i h
theorem mL_rise (k : Nat) (h : k ≤ 9) : RiseE (mL k) := fun i j hij hj => by
  rw [mL_len] at hj
  rw [mL_at k i (by omega), mL_at k j hj]
  exact mE_less i j hij (by omega)
theorem mE_name (k : Nat) (h : k < 10) : nameL [b8 (97 + (k : Int))] = true := by
  have h1 : ∀ k : Nat, k < 10 → nameL [b8 (97 + (k : Int))] = true := by decide +kernel
  exact h1 k h
theorem mL_tl (k : Nat) : ∀ r ∈ mL k, r.tl = tl0 := by
  induction k with
  | zero => intro r hr; cases hr
  | succ k ih =>
    intro r hr
    rw [mL, List.mem_append] at hr
    rcases hr with h | h
    · exact ih r h
    · rw [List.mem_singleton.1 h]; rfl
set_option maxRecDepth 100000 in
set_option maxHeartbeats 6400000 in
theorem directorMany_calls (n : Int) (w : World) : Calls Tryz.prog 7 #[.int .i64 n] w fun e w' => e = .returned (.bool true) ∧ Chg nowhere w w' := by
  by_cases h0 : n < 0
  · go_enter Tryz.func7, Tryz.ntmps7
    go_wp2_with (first | go_skip | ((with_reducible apply (wpl_guard (op := .build _ _))); (exact rfl)))
    refine (dknown_calls _).mono ?_
    rintro e w1 ⟨rfl, st1⟩
    go_wp2_with (first | go_skip | ((with_reducible apply (wpl_guard (op := .build _ _))); (exact rfl)))
    go_ret
    exact ⟨rfl, (stepN (w0 := w)).chg⟩
  by_cases h9 : 9 < n
  · go_enter Tryz.func7, Tryz.ntmps7
    go_wp2_with (first | go_skip | ((with_reducible apply (wpl_guard (op := .build _ _))); (exact rfl)))
    refine (dknown_calls _).mono ?_
    rintro e w1 ⟨rfl, st1⟩
    go_wp2_with (first | go_skip | ((with_reducible apply (wpl_guard (op := .build _ _))); (exact rfl)))
    go_ret
    exact ⟨rfl, (stepN (w0 := w)).chg⟩
  obtain ⟨N, hN⟩ : ∃ N : Nat, n = (N : Int) := ⟨n.toNat, by omega⟩
  subst hN
  have hN9 : N ≤ 9 := by omega
  go_enter Tryz.func7, Tryz.ntmps7
  go_wp2_with (first | go_skip | ((with_reducible apply wpl_build); (exact run_hB6 _)) | ((with_reducible apply (wpl_guard (op := .build _ _))); (exact rfl)))
  refine (dirNew_calls (hB 6) _).mono ?_
  rintro e w1 ⟨zd, zr, z0, z1, rfl, st1, D1⟩
  have nw1 : Nw w w1 := ⟨st1.chg⟩
  go_wp2_with (first | go_skip | ((with_reducible apply (wpl_guard (op := .build _ _))); (exact rfl)))
  go_loopw [4] (fun iv wr => ∃ k : Nat, k ≤ N ∧ iv = .int .i64 (k : Int) ∧ Nw w wr ∧ Hid (∃ s : DS, DrAt w wr zd zr s ∧ s.L = mL (min k 4))) (fun iv _ => N - (intOf iv).toNat)
  case atStart => exact ⟨0, Nat.zero_le _, rfl, nw1, Lib.hid ⟨_, D1, rfl⟩⟩
  case round =>
    obtain ⟨k, hk, rfl, nwr, HD⟩ := hrel
    obtain ⟨s, D, hL⟩ := HD.out
    have hsn : s.n = min k 4 := by rw [← D.hl, hL, mL_len]
    have hsl : s.L.length = min k 4 := by rw [hL, mL_len]
    by_cases hlt : k < N
    · have hltI : (k : Int) < N := by omega
      have kbn := run_gen (97 + (k : Int))
      rw [show (97 + (k : Int)) % 256 = 97 + (k : Int) by omega] at kbn
      have hnm := mE_name k (by omega)
      have hup : ∀ i, i < s.L.length → Op.bytesLess (gt s.L i).l [b8 (97 + (k : Int))] = true := fun i hi => by
        rw [hL, mL_at _ _ (by omega)]
        exact mE_less i k (by omega) (by omega)
      have hrise : RiseE s.L := by rw [hL]; exact mL_rise _ (by omega)
      have HUP := Lib.hid hup
      have HRI := Lib.hid hrise
      have HL := Lib.hid hL
      have HDD := Lib.hid D
      clear hup hrise hL D HD
      by_cases h4 : k < 4
      · have h4I : (k : Int) < 4 := by omega
        go_wp2_with (first | go_skip | ((with_reducible apply (stop_dst (dst := some 26))); (try simp only [Act.put, sA, sB, sC]); ((with_reducible apply (wpl_bslice (dst := some 26))); (exact kbn _); intro zb wb _ _ _)) | ((with_reducible apply wpl_build); (exact run_hB0 _)) | ((with_reducible apply (wpl_conv (xs := [b8 (97 + (k : Int))]))); (exact rfl); infer_instance; (exact rfl); (exact Tryz.underlying29); (exact Tryz.underlying5); (exact Tryz.underlying9)) | ((with_reducible apply (wpl_guard (op := .build _ _))); (exact rfl)))
        refine (enrNew_calls (HDD.out.step (w' := wb)) [b8 (97 + (k : Int))] [104] zeroH hnm (by decide +kernel) HRI.out HUP.out (by omega)).mono ?_
        rintro e w3 ⟨A', c', rfl, nw3, D3⟩
        go_wp2_with (first | go_skip | ((with_reducible apply (wpl_guard (op := .build _ _))); (exact rfl)))
        refine ⟨⟨k + 1, by omega, by go_num, nw3, Lib.hid ⟨_, D3, ?_⟩⟩, by simp [intOf]; omega⟩
        show s.L ++ [mE k] = _
        rw [HL.out, show min k 4 = k by omega, show min (k + 1) 4 = k + 1 by omega]
        rfl
      · have h4I : ¬ (k : Int) < 4 := by omega
        have hno : ∀ i, i < s.L.length → (gt s.L i).l ≠ [b8 (97 + (k : Int))] := fun i hi he => by
          have h8 := HUP.out i hi
          rw [he, bytesLess_irr] at h8
          cases h8
        have HNO := Lib.hid hno
        clear hno
        go_wp2_with (first | go_skip | ((with_reducible apply (stop_dst (dst := some 26))); (try simp only [Act.put, sA, sB, sC]); ((with_reducible apply (wpl_bslice (dst := some 26))); (exact kbn _); intro zb wb _ _ _)) | ((with_reducible apply wpl_build); (exact run_hB0 _)) | ((with_reducible apply (wpl_conv (xs := [b8 (97 + (k : Int))]))); (exact rfl); infer_instance; (exact rfl); (exact Tryz.underlying29); (exact Tryz.underlying5); (exact Tryz.underlying9)) | ((with_reducible apply (wpl_guard (op := .build _ _))); (exact rfl)))
        refine (enrFull_calls (HDD.out.step (w' := wb)) [b8 (97 + (k : Int))] [104] zeroH hnm (by decide +kernel) HRI.out HNO.out (by omega) (by omega)).mono ?_
        rintro e w3 ⟨rfl, st3⟩
        have D3 := (HDD.out.step (w' := wb)).step (w' := w3)
        go_wp2_with (first | go_skip | ((with_reducible apply (wpl_guard (op := .build _ _))); (exact rfl)))
        refine ⟨⟨k + 1, by omega, by go_num, inferInstance, Lib.hid ⟨_, D3, ?_⟩⟩, by simp [intOf]; omega⟩
        rw [HL.out, show min k 4 = 4 by omega, show min (k + 1) 4 = 4 by omega]
    · have hltI : ¬ (k : Int) < N := by omega
      have hkN : k = N := by omega
      subst hkN
      have hrise : RiseE s.L := by rw [hL]; exact mL_rise _ (by omega)
      have HRI := Lib.hid hrise
      have HTL : Hid (∀ r ∈ s.L, r.tl = tl0) := Lib.hid (by rw [hL]; exact mL_tl _)
      have HDD := Lib.hid D
      have hsn6 : s.n ≤ 1000000 := by omega
      by_cases hz : k = 0
      · have hzI : ((k : Int) == 0) = true := by simp [hz]
        clear hL D HD
        go_wp2_with (first | go_skip | ((with_reducible apply wpl_build); (exact run_hB0 _)) | ((with_reducible apply (wpl_guard (op := .build _ _))); (exact rfl)))
        refine (enrBad_calls zd [65] [104] zeroH (by decide +kernel) _).mono ?_
        rintro e w3 ⟨rfl, st3⟩
        have D3 := HDD.out.step (w' := w3)
        have hd3 := D3.hd
        have ha3 := D3.ha
        have nw3 : Nw w w3 := inferInstance
        go_wp2_with (first | go_skip | ((with_reducible apply (wpl_guard (op := .build _ _))); (exact rfl)))
        refine (inv0_calls D3.hl hsn6 HTL.out).mono ?_
        rintro e w4 ⟨rfl, st4⟩
        go_wp2_with (first | go_skip | ((with_reducible apply (wpl_guard (op := .build _ _))); (exact rfl)))
        refine (dknown_calls _).mono ?_
        rintro e w5 ⟨rfl, st5⟩
        go_wp2_with (first | go_skip | ((with_reducible apply (wpl_guard (op := .build _ _))); (exact rfl)))
        go_ret
        exact ⟨rfl, (stepN (w0 := w)).chg⟩
      · have hzI : ((k : Int) == 0) = false := by simpa using hz
        have h0l : 0 < s.L.length := by omega
        have hn0 : (gt s.L 0).l = [97] := by
          rw [hL, mL_at _ 0 (by omega)]
          rfl
        clear hL D HD
        go_wp2_with (first | go_skip | ((with_reducible apply wpl_build); (exact run_hB1 _)) | ((with_reducible apply (wpl_guard (op := .build _ _))); (exact rfl)))
        refine (enrSet_calls HDD.out [97] [104, 49] (hB 1) (by decide +kernel) (by decide +kernel) HRI.out 0 h0l hn0 hsn6).mono ?_
        rintro e w2 ⟨rfl, nw2, D2⟩
        have HT2 : Hid (∀ r ∈ s.L.set 0 (((gt s.L 0).setW [104, 49]).setP (hB 1)), r.tl = tl0) := Lib.hid (fun r hr => by
          rcases List.mem_or_eq_of_mem_set hr with h | h
          · exact HTL.out r h
          · rw [h]
            show (gt s.L 0).tl = tl0
            exact HTL.out _ (gt_mem _ 0 h0l))
        go_wp2_with (first | go_skip | ((with_reducible apply wpl_build); (exact run_hB0 _)) | ((with_reducible apply (wpl_guard (op := .build _ _))); (exact rfl)))
        refine (enrBad_calls zd [65] [104] zeroH (by decide +kernel) _).mono ?_
        rintro e w3 ⟨rfl, st3⟩
        have D3 := D2.step (w' := w3)
        have hd3 := D3.hd
        have ha3 := D3.ha
        have nw3 : Nw w w3 := inferInstance
        go_wp2_with (first | go_skip | ((with_reducible apply (wpl_guard (op := .build _ _))); (exact rfl)))
        refine (inv0_calls D3.hl hsn6 HT2.out).mono ?_
        rintro e w4 ⟨rfl, st4⟩
        go_wp2_with (first | go_skip | ((with_reducible apply (wpl_guard (op := .build _ _))); (exact rfl)))
        refine (dknown_calls _).mono ?_
        rintro e w5 ⟨rfl, st5⟩
        go_wp2_with (first | go_skip | ((with_reducible apply (wpl_guard (op := .build _ _))); (exact rfl)))
        go_ret
        exact ⟨rfl, (stepN (w0 := w)).chg⟩
end Go.Proofs.YteieielodooglaaGreat
