/- SlI -/
import Derived.Test.YtegdihpnefoolaaTjSlH
open Go Go.RowKit
namespace Go.Proofs.Ytegdihpnefoolaa
/-- where the next record is laid -/
def nextP (s : FS) : Nat := (if (bestS s).2.1 = 0 then 0 else 1 - (bestS s).1) * 40
/-- what Save answers, and leaves -/
def saveS (N : Nat) (s : FS) (b : List UInt8) : Nat × FS :=
  if s.dead = true then (11, s) else if 2500 < b.length then (10, s) else if 1073741824 ≤ (bestS s).2.1 then (12, s) else writeS N s (nextP s) (packS (((bestS s).2.1 + 1 : Nat) : Int) b)
theorem bestK_slot (s : FS) : ∀ k, (bestK s k).1 ≤ k
  | 0 => Nat.le_refl _
  | k + 1 => by
    rw [bestK]
    split
    · exact Nat.le_succ k
    · exact Nat.le_trans (bestK_slot s k) (Nat.le_succ k)
theorem bestS_slot (s : FS) : (bestS s).1 ≤ 1 := by
  unfold bestS
  rw [bestK]
  split
  · exact Nat.le_refl _
  · exact bestK_slot s 1
theorem nextP_le (s : FS) : nextP s ≤ 40 := by
  unfold nextP
  split <;> omega
section
variable {g p N : Nat} {s : FS} {w : World}
theorem saveLow_calls (A : Option Addr) (n c : Nat) (hF : FlashAt w g p N s) (hN : N < 80) :
    Calls Try.prog 18 #[.pointer (some ⟨g, 0, none⟩), .slice A n c] w fun e w' => e = .returned (.int .i64 1) ∧ Step nowhere w w' := by
  go_enter Try.func18, Try.ntmps18
  go_wp2_with (first | ((with_reducible apply wpl_alloc); intro z wz _ _ _) | ((with_reducible apply wpl_loadrow); (exact rfl); infer_instance; infer_instance; (first | (with_reducible assumption) | (with_reducible exact H32.size _) | kernel_rfl)) | ((with_reducible apply wpl_loadcellN); (exact rfl); infer_instance; (exact rfl)) | ((with_reducible apply wpl_storerow); (exact rfl); (exact rfl); infer_instance; infer_instance; (first | (with_reducible assumption) | (with_reducible exact H32.size _) | kernel_rfl); (first | (with_reducible assumption) | (with_reducible exact H32.size _) | kernel_rfl); (first | (with_reducible exact u8s_one _) | (with_reducible assumption) | kernel_rfl); intro ws _ _) | ((with_reducible apply wpl_storecell); (exact rfl); (exact rfl); infer_instance; (exact rfl); (first | (with_reducible assumption) | omega | (focus (simp; done)) | (focus (simp; omega; done)) | decide); intro ws _ _))
  refine (newestLow_calls hF hN).mono ?_
  rintro e w1 ⟨rfl, _⟩
  go_wp2_with (first | ((with_reducible apply (wpl_alloc (dst := some 5))); intro z5 wz5 _ _ _) | ((with_reducible apply wpl_alloc); intro z wz _ _ _) | ((with_reducible apply wpl_loadrow); (exact rfl); infer_instance; infer_instance; (first | (with_reducible assumption) | (with_reducible exact H32.size _) | kernel_rfl)) | ((with_reducible apply wpl_loadcellN); (exact rfl); infer_instance; (exact rfl)) | ((with_reducible apply wpl_storerow); (exact rfl); (exact rfl); infer_instance; infer_instance; (first | (with_reducible assumption) | (with_reducible exact H32.size _) | kernel_rfl); (first | (with_reducible assumption) | (with_reducible exact H32.size _) | kernel_rfl); (first | (with_reducible exact u8s_one _) | (with_reducible assumption) | kernel_rfl); intro ws _ _) | ((with_reducible apply wpl_storecell); (exact rfl); (exact rfl); infer_instance; (exact rfl); (first | (with_reducible assumption) | omega | (focus (simp; done)) | (focus (simp; omega; done)) | decide); intro ws _ _))
  go_ret
  exact ⟨rfl, stepN⟩
theorem loadLow_calls (hF : FlashAt w g p N s) (hN : N < 80) :
    Calls Try.prog 21 #[.pointer (some ⟨g, 0, none⟩)] w fun e w' => e = .returned (.tuple #[.slice none 0 0, .int .i64 0, .int .i64 1]) ∧ Step nowhere w w' := by
  go_enter Try.func21, Try.ntmps21
  go_wp2_with (first | ((with_reducible apply wpl_alloc); intro z wz _ _ _) | ((with_reducible apply wpl_loadrow); (exact rfl); infer_instance; infer_instance; (first | (with_reducible assumption) | (with_reducible exact H32.size _) | kernel_rfl)) | ((with_reducible apply wpl_loadcellN); (exact rfl); infer_instance; (exact rfl)) | ((with_reducible apply wpl_storerow); (exact rfl); (exact rfl); infer_instance; infer_instance; (first | (with_reducible assumption) | (with_reducible exact H32.size _) | kernel_rfl); (first | (with_reducible assumption) | (with_reducible exact H32.size _) | kernel_rfl); (first | (with_reducible exact u8s_one _) | (with_reducible assumption) | kernel_rfl); intro ws _ _) | ((with_reducible apply wpl_storecell); (exact rfl); (exact rfl); infer_instance; (exact rfl); (first | (with_reducible assumption) | omega | (focus (simp; done)) | (focus (simp; omega; done)) | decide); intro ws _ _))
  refine (newestLow_calls hF hN).mono ?_
  rintro e w1 ⟨rfl, _⟩
  go_wp2_with (first | ((with_reducible apply (wpl_alloc (dst := some 5))); intro z5 wz5 _ _ _) | ((with_reducible apply wpl_alloc); intro z wz _ _ _) | ((with_reducible apply wpl_loadrow); (exact rfl); infer_instance; infer_instance; (first | (with_reducible assumption) | (with_reducible exact H32.size _) | kernel_rfl)) | ((with_reducible apply wpl_loadcellN); (exact rfl); infer_instance; (exact rfl)) | ((with_reducible apply wpl_storerow); (exact rfl); (exact rfl); infer_instance; infer_instance; (first | (with_reducible assumption) | (with_reducible exact H32.size _) | kernel_rfl); (first | (with_reducible assumption) | (with_reducible exact H32.size _) | kernel_rfl); (first | (with_reducible exact u8s_one _) | (with_reducible assumption) | kernel_rfl); intro ws _ _) | ((with_reducible apply wpl_storecell); (exact rfl); (exact rfl); infer_instance; (exact rfl); (first | (with_reducible assumption) | omega | (focus (simp; done)) | (focus (simp; omega; done)) | decide); intro ws _ _))
  refine wp_region_N (nowhere) (by kernel_rfl) (fun wd _ _ => ?_)
  refine' takeH (i := 0) (v := _) rfl (by kernel_rfl) (by kernel_rfl) (by kernel_rfl) (fun _ _ _ h => h) (yields_of (by rfl) (fun w' _ => ?_)) inferInstance ?_
  rotate_left
  · (go_simp; try with_reducible rfl)
  try simp only [Act.put, sA]; try simp only [sB, sC]
  refine' takeH (i := 1) (v := _) rfl (by kernel_rfl) (by kernel_rfl) (by kernel_rfl) (fun _ _ _ h => h) (yields_of (by rfl) (fun w' _ => ?_)) inferInstance ?_
  rotate_left
  · (first | ((with_reducible apply ev_loadrow); (exact rfl); infer_instance; infer_instance; (first | (with_reducible assumption) | (with_reducible exact H32.size _) | kernel_rfl)) | ((with_reducible apply (ev_loadhash (t := 52))); (exact rfl); infer_instance; infer_instance; (first | (with_reducible assumption) | omega)) | ((with_reducible apply ev_loadcellN); (exact rfl); infer_instance; infer_instance; (exact rfl)) | ((with_reducible apply (ev_loadint (t := 3))); (exact rfl); infer_instance; infer_instance; (first | (with_reducible assumption) | omega)) | ((with_reducible apply (ev_loadbyte (t := 5))); (exact rfl); infer_instance; infer_instance; (first | (with_reducible assumption) | omega)) | (go_simp; try with_reducible rfl))
  try simp only [Act.put, sA]; try simp only [sB, sC]
  refine' takeH (i := 2) (v := _) rfl (by kernel_rfl) (by kernel_rfl) (by kernel_rfl) (fun _ _ _ h => h) (yields_of (by rfl) (fun w' _ => ?_)) inferInstance ?_
  rotate_left
  · (go_simp; try with_reducible rfl)
  try simp only [Act.put, sA]; try simp only [sB, sC]
  refine' takeH (i := 3) (v := _) rfl (by kernel_rfl) (by kernel_rfl) (by kernel_rfl) (fun _ _ _ h => h) (yields_of (by rfl) (fun w' _ => ?_)) inferInstance ?_
  rotate_left
  · (first | ((with_reducible apply ev_loadrow); (exact rfl); infer_instance; infer_instance; (first | (with_reducible assumption) | (with_reducible exact H32.size _) | kernel_rfl)) | ((with_reducible apply (ev_loadhash (t := 52))); (exact rfl); infer_instance; infer_instance; (first | (with_reducible assumption) | omega)) | ((with_reducible apply ev_loadcellN); (exact rfl); infer_instance; infer_instance; (exact rfl)) | ((with_reducible apply (ev_loadint (t := 3))); (exact rfl); infer_instance; infer_instance; (first | (with_reducible assumption) | omega)) | ((with_reducible apply (ev_loadbyte (t := 5))); (exact rfl); infer_instance; infer_instance; (first | (with_reducible assumption) | omega)) | (go_simp; try with_reducible rfl))
  try simp only [Act.put, sA]; try simp only [sB, sC]
  refine' takeH (i := 4) (v := _) rfl (by kernel_rfl) (by kernel_rfl) (by kernel_rfl) (fun _ _ _ h => h) (yields_of (by rfl) (fun w' _ => ?_)) inferInstance ?_
  rotate_left
  · (go_simp; try with_reducible rfl)
  try simp only [Act.put, sA]; try simp only [sB, sC]
  refine' takeH (i := 5) (v := _) rfl (by kernel_rfl) (by kernel_rfl) (by kernel_rfl) (fun _ _ _ h => h) (yields_of (by rfl) (fun w' _ => ?_)) inferInstance ?_
  rotate_left
  · (go_simp; try with_reducible rfl)
  try simp only [Act.put, sA]; try simp only [sB, sC]
  refine' takeH (i := 6) (v := _) rfl (by kernel_rfl) (by kernel_rfl) (by kernel_rfl) (fun _ _ _ h => h) (yields_of (by rfl) (fun w' _ => ?_)) inferInstance ?_
  rotate_left
  · (go_simp; try with_reducible rfl)
  try simp only [Act.put, sA]; try simp only [sB, sC]
  refine' takeH (i := 7) (v := _) rfl (by kernel_rfl) (by kernel_rfl) (by kernel_rfl) (fun _ _ _ h => h) (yields_of (by rfl) (fun w' _ => ?_)) inferInstance ?_
  rotate_left
  · (go_simp; try with_reducible rfl)
  try simp only [Act.put, sA]; try simp only [sB, sC]
  refine wpAnyH_done (by kernel_rfl) ?_ _
  go_wp2_with (first | ((with_reducible apply wpl_alloc); intro z wz _ _ _) | ((with_reducible apply wpl_loadrow); (exact rfl); infer_instance; infer_instance; (first | (with_reducible assumption) | (with_reducible exact H32.size _) | kernel_rfl)) | ((with_reducible apply wpl_loadcellN); (exact rfl); infer_instance; (exact rfl)) | ((with_reducible apply wpl_storerow); (exact rfl); (exact rfl); infer_instance; infer_instance; (first | (with_reducible assumption) | (with_reducible exact H32.size _) | kernel_rfl); (first | (with_reducible assumption) | (with_reducible exact H32.size _) | kernel_rfl); (first | (with_reducible exact u8s_one _) | (with_reducible assumption) | kernel_rfl); intro ws _ _) | ((with_reducible apply wpl_storecell); (exact rfl); (exact rfl); infer_instance; (exact rfl); (first | (with_reducible assumption) | omega | (focus (simp; done)) | (focus (simp; omega; done)) | decide); intro ws _ _))
  refine bodyPost_ret (results_tmp3 rfl _ _ _) rfl ?_
  exact ⟨rfl, stepN⟩
theorem write_at {z n c : Nat} {b : List UInt8} (x : Int) (first : Nat) (hx : x = (first : Int)) (hF : FlashAt w g p N s) [ho : HO w 5 1 (some ⟨z, 0, none⟩) n c (bs b)] (hl : b.length = n) (hc : n ≤ c) (h0 : 0 < n) (hn : n ≤ 1000000) (hz : ¬ Two g p z) (hf : first ≤ 1000000) :
    Calls Try.prog 45 #[.pointer (some ⟨g, 0, none⟩), .int .i64 x, .slice (some ⟨z, 0, none⟩) n c] w fun e w' => e = .returned (.int .i64 ((writeS N s first b).1 : Int)) ∧ FlashAt w' g p N (writeS N s first b).2 ∧ Step (Two g p) w w' := by
  subst hx
  exact write_calls first hF hl hc h0 hn hz hf
set_option maxRecDepth 100000 in
set_option maxHeartbeats 1600000 in
theorem save_calls {A : Option Addr} {n c : Nat} {b : List UInt8} (hF : FlashAt w g p N s) (hN : 80 ≤ N) [hr : HR w A (bs b)] (hl : b.length = n) (hn : n ≤ 9223372036854775807) :
    Calls Try.prog 18 #[.pointer (some ⟨g, 0, none⟩), .slice A n c] w fun e w' => e = .returned (.int .i64 ((saveS N s b).1 : Int)) ∧ FlashAt w' g p N (saveS N s b).2 ∧ Step (Two g p) w w' := by
  have HF := Lib.hid hF
  have HLL := Lib.hid hl
  have HRR := Lib.hid hr.out
  have hlts := hF.lts
  obtain ⟨S, hS⟩ : ∃ S, S = saveS N s b := ⟨_, rfl⟩
  have hS2 := hS
  unfold saveS at hS2
  rw [hl] at hS2
  have HS2 := Lib.hid hS2
  rw [← hS]
  clear hS hS2 hl hF
  go_enter Try.func18, Try.ntmps18
  go_wp2_with (first | ((with_reducible apply wpl_alloc); intro z wz _ _ _) | ((with_reducible apply wpl_loadrow); (exact rfl); infer_instance; infer_instance; (first | (with_reducible assumption) | (with_reducible exact H32.size _) | kernel_rfl)) | ((with_reducible apply wpl_loadcellN); (exact rfl); infer_instance; (exact rfl)) | ((with_reducible apply wpl_storerow); (exact rfl); (exact rfl); infer_instance; infer_instance; (first | (with_reducible assumption) | (with_reducible exact H32.size _) | kernel_rfl); (first | (with_reducible assumption) | (with_reducible exact H32.size _) | kernel_rfl); (first | (with_reducible exact u8s_one _) | (with_reducible assumption) | kernel_rfl); intro ws _ _) | ((with_reducible apply wpl_storecell); (exact rfl); (exact rfl); infer_instance; (exact rfl); (first | (with_reducible assumption) | omega | (focus (simp; done)) | (focus (simp; omega; done)) | decide); intro ws _ _))
  refine (newest_calls HF.out hN).mono ?_
  obtain ⟨R, hR⟩ : ∃ R, R = bestS s := ⟨_, rfl⟩
  have hR1 : R.1 ≤ 1 := by rw [hR]; exact bestS_slot s
  have hnp : nextP s = (if R.2.1 = 0 then 0 else 1 - R.1) * 40 := by rw [hR]; rfl
  have HNP := Lib.hid hnp
  have HRS := Lib.hid hR
  unfold NewPost
  rw [← hR]
  clear hR hnp
  rintro e w1 ⟨B, m, d, rfl, hm, hmd, hB, hnB, _⟩
  have hE : ∀ x : Int, (if R.2.1 = 0 then (9 : Int) else 0) = x → True := fun _ _ => trivial
  clear hE
  have hcase : (R.2.1 = 0 ∧ (if R.2.1 = 0 then (9 : Int) else 0) = 9) ∨ (R.2.1 ≠ 0 ∧ (if R.2.1 = 0 then (9 : Int) else 0) = 0) := by
    by_cases h : R.2.1 = 0
    · exact .inl ⟨h, if_pos h⟩
    · exact .inr ⟨h, if_neg h⟩
  obtain ⟨E, hE⟩ : ∃ E : Int, E = (if R.2.1 = 0 then (9 : Int) else 0) := ⟨_, rfl⟩
  rw [← hE] at hcase ⊢
  clear hE
  have hE1 : ¬ E = 1 := by omega
  obtain ⟨x, hx⟩ : ∃ x : Int, x = (R.2.1 : Int) := ⟨_, rfl⟩
  rw [← hx]
  have hx0 : 0 ≤ x := by omega
  have HX := Lib.hid hx
  clear hx
  have n1 : Nw w w1 := inferInstance
  go_wp2_with (first | ((with_reducible apply (wpl_alloc (dst := some 5))); intro z5 wz5 _ _ _) | ((with_reducible apply wpl_alloc); intro z wz _ _ _) | ((with_reducible apply wpl_loadrow); (exact rfl); infer_instance; infer_instance; (first | (with_reducible assumption) | (with_reducible exact H32.size _) | kernel_rfl)) | ((with_reducible apply wpl_loadcellN); (exact rfl); infer_instance; (exact rfl)) | ((with_reducible apply wpl_storerow); (exact rfl); (exact rfl); infer_instance; infer_instance; (first | (with_reducible assumption) | (with_reducible exact H32.size _) | kernel_rfl); (first | (with_reducible assumption) | (with_reducible exact H32.size _) | kernel_rfl); (first | (with_reducible exact u8s_one _) | (with_reducible assumption) | kernel_rfl); intro ws _ _) | ((with_reducible apply wpl_storecell); (exact rfl); (exact rfl); infer_instance; (exact rfl); (first | (with_reducible assumption) | omega | (focus (simp; done)) | (focus (simp; omega; done)) | decide); intro ws _ _))
  refine (Dead_calls g p N s _ (HF.out.calm (stepN (w0 := w)).chg)).mono ?_
  rintro e w2 ⟨rfl, rfl⟩
  rcases hd : s.dead with _ | _
  · by_cases hlong : 2500 < n
    · have hlongI : 2500 < (n : Int) := by omega
      have HS3 : Hid (S = (10, s)) := Lib.hid (by rw [HS2.out, hd, if_neg (by decide), if_pos hlong])
      clear HS2
      go_wp2_with (first | ((with_reducible apply wpl_alloc); intro z wz _ _ _) | ((with_reducible apply wpl_loadrow); (exact rfl); infer_instance; infer_instance; (first | (with_reducible assumption) | (with_reducible exact H32.size _) | kernel_rfl)) | ((with_reducible apply wpl_loadcellN); (exact rfl); infer_instance; (exact rfl)) | ((with_reducible apply wpl_storerow); (exact rfl); (exact rfl); infer_instance; infer_instance; (first | (with_reducible assumption) | (with_reducible exact H32.size _) | kernel_rfl); (first | (with_reducible assumption) | (with_reducible exact H32.size _) | kernel_rfl); (first | (with_reducible exact u8s_one _) | (with_reducible assumption) | kernel_rfl); intro ws _ _) | ((with_reducible apply wpl_storecell); (exact rfl); (exact rfl); infer_instance; (exact rfl); (first | (with_reducible assumption) | omega | (focus (simp; done)) | (focus (simp; omega; done)) | decide); intro ws _ _))
      go_ret
      rw [HS3.out]
      exact ⟨rfl, HF.out.calm (stepN (w0 := w)).chg, ⟨(stepN (w0 := w)).chg.mono (fun _ _ h => h.elim)⟩⟩
    · have hlongI : ¬ 2500 < (n : Int) := by omega
      by_cases hfull : 1073741824 ≤ R.2.1
      · have hfullI : 1073741824 ≤ x := by have := HX.out; omega
        have HS3 : Hid (S = (12, s)) := Lib.hid (by rw [HS2.out, hd, if_neg (by decide), if_neg hlong, ← HRS.out, if_pos hfull])
        clear HS2
        go_wp2_with (first | ((with_reducible apply wpl_alloc); intro z wz _ _ _) | ((with_reducible apply wpl_loadrow); (exact rfl); infer_instance; infer_instance; (first | (with_reducible assumption) | (with_reducible exact H32.size _) | kernel_rfl)) | ((with_reducible apply wpl_loadcellN); (exact rfl); infer_instance; (exact rfl)) | ((with_reducible apply wpl_storerow); (exact rfl); (exact rfl); infer_instance; infer_instance; (first | (with_reducible assumption) | (with_reducible exact H32.size _) | kernel_rfl); (first | (with_reducible assumption) | (with_reducible exact H32.size _) | kernel_rfl); (first | (with_reducible exact u8s_one _) | (with_reducible assumption) | kernel_rfl); intro ws _ _) | ((with_reducible apply wpl_storecell); (exact rfl); (exact rfl); infer_instance; (exact rfl); (first | (with_reducible assumption) | omega | (focus (simp; done)) | (focus (simp; omega; done)) | decide); intro ws _ _))
        go_ret
        rw [HS3.out]
        exact ⟨rfl, HF.out.calm (stepN (w0 := w)).chg, ⟨(stepN (w0 := w)).chg.mono (fun _ _ h => h.elim)⟩⟩
      · have hfullI : ¬ 1073741824 ≤ x := by have := HX.out; omega
        have HS3 : Hid (S = writeS N s ((if R.2.1 = 0 then 0 else 1 - R.1) * 40) (packS ((R.2.1 + 1 : Nat) : Int) b)) := Lib.hid (by rw [HS2.out, hd, if_neg (by decide), if_neg hlong, ← HRS.out, if_neg hfull, HNP.out])
        have HFU := Lib.hid hfull
        clear HS2 hfull
        have hb1 : HR w1 A (bs b) := ⟨HRR.out.later n1.out⟩
        rcases hcase with ⟨h0, hE9⟩ | ⟨h0, hE9⟩
        · have e2 : (E == 0) = false := by rw [hE9]; rfl
          clear hE9
          rw [if_pos h0] at HS3
          have hn1 : (x + 1) = ((R.2.1 + 1 : Nat) : Int) := by have := HX.out; omega
          obtain ⟨P, hP⟩ : ∃ P, P = packS ((R.2.1 + 1 : Nat) : Int) b := ⟨_, rfl⟩
          have hPl : P.length ≤ 3000 ∧ 0 < P.length := by
            rw [hP, packS_len]
            have := packN_len ((R.2.1 + 1 : Nat) : Int) b (by have := HLL.out; omega)
            have := HLL.out
            omega
          have HP := Lib.hid hP
          have HN1 := Lib.hid hn1
          have HPL0 := Lib.hid hPl
          have H0 := Lib.hid h0
          rw [← hP] at HS3
          clear hP hn1 hPl h0
          go_wp2_with (first | ((with_reducible apply wpl_alloc); intro z wz _ _ _) | ((with_reducible apply wpl_loadrow); (exact rfl); infer_instance; infer_instance; (first | (with_reducible assumption) | (with_reducible exact H32.size _) | kernel_rfl)) | ((with_reducible apply wpl_loadcellN); (exact rfl); infer_instance; (exact rfl)) | ((with_reducible apply wpl_storerow); (exact rfl); (exact rfl); infer_instance; infer_instance; (first | (with_reducible assumption) | (with_reducible exact H32.size _) | kernel_rfl); (first | (with_reducible assumption) | (with_reducible exact H32.size _) | kernel_rfl); (first | (with_reducible exact u8s_one _) | (with_reducible assumption) | kernel_rfl); intro ws _ _) | ((with_reducible apply wpl_storecell); (exact rfl); (exact rfl); infer_instance; (exact rfl); (first | (with_reducible assumption) | omega | (focus (simp; done)) | (focus (simp; omega; done)) | decide); intro ws _ _))
          refine (pack_calls (b := b) _ HLL.out (by omega)).mono ?_
          rw [HN1.out, ← HP.out]
          rintro e w3 ⟨A3, n3, c3, rfl, hl3, hc3, hA3, hnA3, _⟩
          have h30 : 0 < n3 := by have := HPL0.out; omega
          have h3m : n3 ≤ 1000000 := by have := HPL0.out; omega
          obtain ⟨z, rfl⟩ := hA3.some_ h30
          have hz : ¬ Two g p z := by
            have h1 : w2.heap.size ≤ z := hnA3.out _ rfl
            have h2 := (stepN (w0 := w) (w := w2)).chg.size
            rintro (h | h)
            · have h' : z = g := h
              omega
            · have h' : z = p := h
              omega
          have HL3 := Lib.hid hl3
          have n3w : Nw w w3 := inferInstance
          clear hl3
          go_wp2_with (first | ((with_reducible apply wpl_alloc); intro z wz _ _ _) | ((with_reducible apply wpl_loadrow); (exact rfl); infer_instance; infer_instance; (first | (with_reducible assumption) | (with_reducible exact H32.size _) | kernel_rfl)) | ((with_reducible apply wpl_loadcellN); (exact rfl); infer_instance; (exact rfl)) | ((with_reducible apply wpl_storerow); (exact rfl); (exact rfl); infer_instance; infer_instance; (first | (with_reducible assumption) | (with_reducible exact H32.size _) | kernel_rfl); (first | (with_reducible assumption) | (with_reducible exact H32.size _) | kernel_rfl); (first | (with_reducible exact u8s_one _) | (with_reducible assumption) | kernel_rfl); intro ws _ _) | ((with_reducible apply wpl_storecell); (exact rfl); (exact rfl); infer_instance; (exact rfl); (first | (with_reducible assumption) | omega | (focus (simp; done)) | (focus (simp; omega; done)) | decide); intro ws _ _))
          refine (write_at _ (0 * 40) (by simp) (HF.out.calm n3w.out) HL3.out hc3 h30 h3m hz (by omega)).mono ?_
          rintro e w4 ⟨rfl, h4, s4⟩
          go_wp2_with (first | ((with_reducible apply wpl_alloc); intro z wz _ _ _) | ((with_reducible apply wpl_loadrow); (exact rfl); infer_instance; infer_instance; (first | (with_reducible assumption) | (with_reducible exact H32.size _) | kernel_rfl)) | ((with_reducible apply wpl_loadcellN); (exact rfl); infer_instance; (exact rfl)) | ((with_reducible apply wpl_storerow); (exact rfl); (exact rfl); infer_instance; infer_instance; (first | (with_reducible assumption) | (with_reducible exact H32.size _) | kernel_rfl); (first | (with_reducible assumption) | (with_reducible exact H32.size _) | kernel_rfl); (first | (with_reducible exact u8s_one _) | (with_reducible assumption) | kernel_rfl); intro ws _ _) | ((with_reducible apply wpl_storecell); (exact rfl); (exact rfl); infer_instance; (exact rfl); (first | (with_reducible assumption) | omega | (focus (simp; done)) | (focus (simp; omega; done)) | decide); intro ws _ _))
          go_ret
          rw [HS3.out]
          exact ⟨rfl, h4, ⟨(n3w.out.mono (fun _ _ h => h.elim)).trans s4.chg (fun _ _ h => h)⟩⟩
        · have e2 : (E == 0) = true := by rw [hE9]; rfl
          clear hE9
          rw [if_neg h0] at HS3
          have hn1 : (x + 1) = ((R.2.1 + 1 : Nat) : Int) := by have := HX.out; omega
          obtain ⟨P, hP⟩ : ∃ P, P = packS ((R.2.1 + 1 : Nat) : Int) b := ⟨_, rfl⟩
          have hPl : P.length ≤ 3000 ∧ 0 < P.length := by
            rw [hP, packS_len]
            have := packN_len ((R.2.1 + 1 : Nat) : Int) b (by have := HLL.out; omega)
            have := HLL.out
            omega
          have HP := Lib.hid hP
          have HN1 := Lib.hid hn1
          have HPL0 := Lib.hid hPl
          have H0 := Lib.hid h0
          rw [← hP] at HS3
          clear hP hn1 hPl h0
          go_wp2_with (first | ((with_reducible apply wpl_alloc); intro z wz _ _ _) | ((with_reducible apply wpl_loadrow); (exact rfl); infer_instance; infer_instance; (first | (with_reducible assumption) | (with_reducible exact H32.size _) | kernel_rfl)) | ((with_reducible apply wpl_loadcellN); (exact rfl); infer_instance; (exact rfl)) | ((with_reducible apply wpl_storerow); (exact rfl); (exact rfl); infer_instance; infer_instance; (first | (with_reducible assumption) | (with_reducible exact H32.size _) | kernel_rfl); (first | (with_reducible assumption) | (with_reducible exact H32.size _) | kernel_rfl); (first | (with_reducible exact u8s_one _) | (with_reducible assumption) | kernel_rfl); intro ws _ _) | ((with_reducible apply wpl_storecell); (exact rfl); (exact rfl); infer_instance; (exact rfl); (first | (with_reducible assumption) | omega | (focus (simp; done)) | (focus (simp; omega; done)) | decide); intro ws _ _))
          refine (pack_calls (b := b) _ HLL.out (by omega)).mono ?_
          rw [HN1.out, ← HP.out]
          rintro e w3 ⟨A3, n3, c3, rfl, hl3, hc3, hA3, hnA3, _⟩
          have h30 : 0 < n3 := by have := HPL0.out; omega
          have h3m : n3 ≤ 1000000 := by have := HPL0.out; omega
          obtain ⟨z, rfl⟩ := hA3.some_ h30
          have hz : ¬ Two g p z := by
            have h1 : w2.heap.size ≤ z := hnA3.out _ rfl
            have h2 := (stepN (w0 := w) (w := w2)).chg.size
            rintro (h | h)
            · have h' : z = g := h
              omega
            · have h' : z = p := h
              omega
          have HL3 := Lib.hid hl3
          have n3w : Nw w w3 := inferInstance
          clear hl3
          go_wp2_with (first | ((with_reducible apply wpl_alloc); intro z wz _ _ _) | ((with_reducible apply wpl_loadrow); (exact rfl); infer_instance; infer_instance; (first | (with_reducible assumption) | (with_reducible exact H32.size _) | kernel_rfl)) | ((with_reducible apply wpl_loadcellN); (exact rfl); infer_instance; (exact rfl)) | ((with_reducible apply wpl_storerow); (exact rfl); (exact rfl); infer_instance; infer_instance; (first | (with_reducible assumption) | (with_reducible exact H32.size _) | kernel_rfl); (first | (with_reducible assumption) | (with_reducible exact H32.size _) | kernel_rfl); (first | (with_reducible exact u8s_one _) | (with_reducible assumption) | kernel_rfl); intro ws _ _) | ((with_reducible apply wpl_storecell); (exact rfl); (exact rfl); infer_instance; (exact rfl); (first | (with_reducible assumption) | omega | (focus (simp; done)) | (focus (simp; omega; done)) | decide); intro ws _ _))
          refine (write_at _ ((1 - R.1) * 40) (by omega) (HF.out.calm n3w.out) HL3.out hc3 h30 h3m hz (by omega)).mono ?_
          rintro e w4 ⟨rfl, h4, s4⟩
          go_wp2_with (first | ((with_reducible apply wpl_alloc); intro z wz _ _ _) | ((with_reducible apply wpl_loadrow); (exact rfl); infer_instance; infer_instance; (first | (with_reducible assumption) | (with_reducible exact H32.size _) | kernel_rfl)) | ((with_reducible apply wpl_loadcellN); (exact rfl); infer_instance; (exact rfl)) | ((with_reducible apply wpl_storerow); (exact rfl); (exact rfl); infer_instance; infer_instance; (first | (with_reducible assumption) | (with_reducible exact H32.size _) | kernel_rfl); (first | (with_reducible assumption) | (with_reducible exact H32.size _) | kernel_rfl); (first | (with_reducible exact u8s_one _) | (with_reducible assumption) | kernel_rfl); intro ws _ _) | ((with_reducible apply wpl_storecell); (exact rfl); (exact rfl); infer_instance; (exact rfl); (first | (with_reducible assumption) | omega | (focus (simp; done)) | (focus (simp; omega; done)) | decide); intro ws _ _))
          go_ret
          rw [HS3.out]
          exact ⟨rfl, h4, ⟨(n3w.out.mono (fun _ _ h => h.elim)).trans s4.chg (fun _ _ h => h)⟩⟩
  · have HS3 : Hid (S = (11, s)) := Lib.hid (by rw [HS2.out, hd, if_pos rfl])
    clear HS2
    go_wp2_with (first | ((with_reducible apply wpl_alloc); intro z wz _ _ _) | ((with_reducible apply wpl_loadrow); (exact rfl); infer_instance; infer_instance; (first | (with_reducible assumption) | (with_reducible exact H32.size _) | kernel_rfl)) | ((with_reducible apply wpl_loadcellN); (exact rfl); infer_instance; (exact rfl)) | ((with_reducible apply wpl_storerow); (exact rfl); (exact rfl); infer_instance; infer_instance; (first | (with_reducible assumption) | (with_reducible exact H32.size _) | kernel_rfl); (first | (with_reducible assumption) | (with_reducible exact H32.size _) | kernel_rfl); (first | (with_reducible exact u8s_one _) | (with_reducible assumption) | kernel_rfl); intro ws _ _) | ((with_reducible apply wpl_storecell); (exact rfl); (exact rfl); infer_instance; (exact rfl); (first | (with_reducible assumption) | omega | (focus (simp; done)) | (focus (simp; omega; done)) | decide); intro ws _ _))
    go_ret
    rw [HS3.out]
    exact ⟨rfl, HF.out.calm (stepN (w0 := w)).chg, ⟨(stepN (w0 := w)).chg.mono (fun _ _ h => h.elim)⟩⟩
end
end Go.Proofs.Ytegdihpnefoolaa
