/- SegFew. -/
import Derived.Test.YtojbbmgghhmgmaaSgP
open Go Go.RowKit
namespace Go.Proofs.Ytojbbmgghhmgmaa
set_option maxRecDepth 100000 in
set_option maxHeartbeats 1600000 in
theorem segFew_calls {A : Option Addr} {n c : Nat} (m : List UInt8) {w : World} [h : HR w A (bs m)] (hn : m.length = n) (hc : n ≤ c) (hmax : n ≤ 9223372036854775807) :
    Calls Try.prog 7 #[.slice A n c] w fun e w' => e = .returned (.bool true) ∧ Chg nowhere w w' := by
  by_cases c1 : n < 1
  · go_enter Try.func7, Try.ntmps7
    have i1 : (n : Int) < 1 := by omega
    go_wp2_with fail
    go_ret
    exact ⟨rfl, Chg.refl _ _⟩
  by_cases c2 : 600 < n
  · go_enter Try.func7, Try.ntmps7
    have i1 : ¬ (n : Int) < 1 := by omega
    have i2 : (600 : Int) < n := by omega
    go_wp2_with fail
    go_ret
    exact ⟨rfl, Chg.refl _ _⟩
  have i1 : ¬ (n : Int) < 1 := by omega
  have i2 : ¬ (600 : Int) < n := by omega
  go_enter Try.func7, Try.ntmps7
  go_wp2_with fail
  refine (split_calls (m := m) 7 (A := A) (n := n) (c := c) hn hc (by decide) (by decide) (by omega) (by omega)).mono ?_
  rintro e w1 ⟨FA, fc, l, rfl, _, _, hF, hD, hI⟩
  have HD := Lib.hid hD
  have HI := Lib.hid hI
  have hll : l.length = if n ≤ 7 then 1 else 1 + n / 7 := by
    rw [map_len hD, split_len, hn]
    split
    · rfl
    · unfold cntN; omega
  have hll2 : l.length ≤ 100 := by split at hll <;> omega
  have HLL := Lib.hid hll
  clear hD hI hll
  obtain ⟨L, hL⟩ : ∃ L, l.length = L := ⟨_, rfl⟩
  have hLL2 : L ≤ 100 := by omega
  rw [hL] at HLL ⊢
  by_cases c7 : 7 < n
  · go_wp2_with fail
    go_loopw [6] (fun iv wr => ∃ k : Nat, k ≤ L ∧ iv = .int .i64 (k : Int) ∧ Step nowhere w1 wr) (fun iv _ => L - (intOf iv).toNat)
    case atStart => exact ⟨0, Nat.zero_le _, rfl, stepN⟩
    case round =>
      obtain ⟨k, hk, rfl, _⟩ := hrel
      by_cases hlt : k < L
      · have hltI : (k : Int) < L := by omega
        have hkl : k < l.length := by rw [hL]; exact hlt
        have hFk := hF.out _ (gt_mem l k hkl)
        have h8 : (gt l k).n ≤ 8 := by rw [← hFk.2.1]; exact gt_len HD.out hkl
        have i8 : ¬ (8 : Int) < (gt l k).n := by omega
        have hid : ((gt l k).id != 7) = false := bneF (HI.out.at hkl)
        clear hFk
        go_wp2_with (first | go_skip | ((with_reducible apply (wpl_guard (op := .load _ _))); (exact rfl)) | ((with_reducible apply (wpl_guard (op := .indexAddr _ _ _))); (exact rfl)) | ((with_reducible apply (wpl_guard (op := .fieldAddr _ _ _))); (exact rfl)) | ((with_reducible apply wpl_loadrow); (exact rfl); (exact inferInstance); (exact inferInstance); (first | (with_reducible assumption) | (with_reducible exact H32.size _) | (with_reducible exact enc_sz _ rfl) | kernel_rfl)) | ((with_reducible apply wpl_loadcellN); (exact rfl); (exact inferInstance); (first | (exact rfl) | (exact tg_hw _) | (exact tg_ctr _) | (exact tg_ecu _) | (exact srch_who) | (exact srch_fd))) | ((with_reducible apply wpl_indexH); (exact rfl); (exact rfl); (exact inferInstance); (exact inferInstance); (first | (with_reducible assumption) | omega); (first | (with_reducible assumption) | omega); (first | (with_reducible assumption) | omega)) | ((with_reducible apply wpl_indexH'); (exact rfl); (exact rfl); (exact inferInstance); (exact inferInstance); (first | (with_reducible assumption) | omega); (first | (with_reducible assumption) | omega); (first | (with_reducible assumption) | omega)) | ((with_reducible apply (wpl_loadhash (t := 70))); (exact rfl); (exact inferInstance); (exact inferInstance); (first | (with_reducible assumption) | omega)) | ((with_reducible apply (wpl_indexE (α := FR) (t := 23))); (exact rfl); (exact rfl); (exact inferInstance); (exact inferInstance); (first | (with_reducible assumption) | omega | (focus (simp; done)) | (focus (simp; omega; done)) | decide); (exact rfl); (decide); (first | (with_reducible assumption) | omega | (focus (simp; done)) | (focus (simp; omega; done)) | decide)) | ((with_reducible apply (wpl_indexE0 (α := FR) (t := 23))); (exact rfl); (exact inferInstance); (exact inferInstance); (first | (with_reducible assumption) | omega | (focus (simp; done)) | (focus (simp; omega; done)) | decide); (exact rfl); (decide); (first | (with_reducible assumption) | omega | (focus (simp; done)) | (focus (simp; omega; done)) | decide)) | ((with_reducible apply (wpl_loadE (α := FR) (t := 40))); (exact inferInstance); (exact rfl); (exact inferInstance); (exact rfl); (decide); (first | (with_reducible assumption) | omega | (focus (simp; done)) | (focus (simp; omega; done)) | decide)) | ((with_reducible apply (wpl_fieldE (t := 40))); (exact Try.underlying40); (exact rfl); (kernel_rfl); (exact rfl); (exact inferInstance); (exact cells_pos (by decide) (by omega))) | ((with_reducible apply (wpl_loadF (α := FR))); (exact inferInstance); (exact rfl); (exact inferInstance); (exact rfl); (first | (with_reducible assumption) | omega | (focus (simp; done)) | (focus (simp; omega; done)) | decide); (first | (exact rfl) | (exact tg_hw _) | (exact tg_ctr _) | (exact tg_ecu _) | (exact srch_who) | (exact srch_fd))) | ((with_reducible apply (wpl_loadint (t := 3))); (exact rfl); (exact inferInstance); (exact inferInstance); (first | (with_reducible assumption) | omega)) | ((with_reducible apply (wpl_loadbyte (t := 5))); (exact rfl); (exact inferInstance); (exact inferInstance); (first | (with_reducible assumption) | omega)))
        first
          | refine ⟨⟨k + 1, by omega, by simp, stepN⟩, by simp [intOf]; omega⟩
          | refine ⟨⟨k + 1, by omega, by omega⟩, by simp [intOf]; omega⟩
      · have hltI : ¬ (k : Int) < L := by omega
        obtain rfl : k = L := by omega
        have hend : ((k : Int) == 1 + (n : Int) / 7) = true := beqT (by have := HLL.out; first | (rw [if_pos (by omega)] at this; omega) | (rw [if_neg (by omega)] at this; omega))
        go_wp2_with (first | go_skip | ((with_reducible apply (wpl_guard (op := .load _ _))); (exact rfl)) | ((with_reducible apply (wpl_guard (op := .indexAddr _ _ _))); (exact rfl)) | ((with_reducible apply (wpl_guard (op := .fieldAddr _ _ _))); (exact rfl)) | ((with_reducible apply wpl_loadrow); (exact rfl); (exact inferInstance); (exact inferInstance); (first | (with_reducible assumption) | (with_reducible exact H32.size _) | (with_reducible exact enc_sz _ rfl) | kernel_rfl)) | ((with_reducible apply wpl_loadcellN); (exact rfl); (exact inferInstance); (first | (exact rfl) | (exact tg_hw _) | (exact tg_ctr _) | (exact tg_ecu _) | (exact srch_who) | (exact srch_fd))))
        refine (sKnown_calls _).mono ?_
        rintro e w2 ⟨rfl, _⟩
        go_wp2_with fail
        go_ret
        exact ⟨rfl, (stepN (w0 := w)).chg⟩
  · go_wp2_with fail
    go_loopw [6] (fun iv wr => ∃ k : Nat, k ≤ L ∧ iv = .int .i64 (k : Int) ∧ Step nowhere w1 wr) (fun iv _ => L - (intOf iv).toNat)
    case atStart => exact ⟨0, Nat.zero_le _, rfl, stepN⟩
    case round =>
      obtain ⟨k, hk, rfl, _⟩ := hrel
      by_cases hlt : k < L
      · have hltI : (k : Int) < L := by omega
        have hkl : k < l.length := by rw [hL]; exact hlt
        have hFk := hF.out _ (gt_mem l k hkl)
        have h8 : (gt l k).n ≤ 8 := by rw [← hFk.2.1]; exact gt_len HD.out hkl
        have i8 : ¬ (8 : Int) < (gt l k).n := by omega
        have hid : ((gt l k).id != 7) = false := bneF (HI.out.at hkl)
        clear hFk
        go_wp2_with (first | go_skip | ((with_reducible apply (wpl_guard (op := .load _ _))); (exact rfl)) | ((with_reducible apply (wpl_guard (op := .indexAddr _ _ _))); (exact rfl)) | ((with_reducible apply (wpl_guard (op := .fieldAddr _ _ _))); (exact rfl)) | ((with_reducible apply wpl_loadrow); (exact rfl); (exact inferInstance); (exact inferInstance); (first | (with_reducible assumption) | (with_reducible exact H32.size _) | (with_reducible exact enc_sz _ rfl) | kernel_rfl)) | ((with_reducible apply wpl_loadcellN); (exact rfl); (exact inferInstance); (first | (exact rfl) | (exact tg_hw _) | (exact tg_ctr _) | (exact tg_ecu _) | (exact srch_who) | (exact srch_fd))) | ((with_reducible apply wpl_indexH); (exact rfl); (exact rfl); (exact inferInstance); (exact inferInstance); (first | (with_reducible assumption) | omega); (first | (with_reducible assumption) | omega); (first | (with_reducible assumption) | omega)) | ((with_reducible apply wpl_indexH'); (exact rfl); (exact rfl); (exact inferInstance); (exact inferInstance); (first | (with_reducible assumption) | omega); (first | (with_reducible assumption) | omega); (first | (with_reducible assumption) | omega)) | ((with_reducible apply (wpl_loadhash (t := 70))); (exact rfl); (exact inferInstance); (exact inferInstance); (first | (with_reducible assumption) | omega)) | ((with_reducible apply (wpl_indexE (α := FR) (t := 23))); (exact rfl); (exact rfl); (exact inferInstance); (exact inferInstance); (first | (with_reducible assumption) | omega | (focus (simp; done)) | (focus (simp; omega; done)) | decide); (exact rfl); (decide); (first | (with_reducible assumption) | omega | (focus (simp; done)) | (focus (simp; omega; done)) | decide)) | ((with_reducible apply (wpl_indexE0 (α := FR) (t := 23))); (exact rfl); (exact inferInstance); (exact inferInstance); (first | (with_reducible assumption) | omega | (focus (simp; done)) | (focus (simp; omega; done)) | decide); (exact rfl); (decide); (first | (with_reducible assumption) | omega | (focus (simp; done)) | (focus (simp; omega; done)) | decide)) | ((with_reducible apply (wpl_loadE (α := FR) (t := 40))); (exact inferInstance); (exact rfl); (exact inferInstance); (exact rfl); (decide); (first | (with_reducible assumption) | omega | (focus (simp; done)) | (focus (simp; omega; done)) | decide)) | ((with_reducible apply (wpl_fieldE (t := 40))); (exact Try.underlying40); (exact rfl); (kernel_rfl); (exact rfl); (exact inferInstance); (exact cells_pos (by decide) (by omega))) | ((with_reducible apply (wpl_loadF (α := FR))); (exact inferInstance); (exact rfl); (exact inferInstance); (exact rfl); (first | (with_reducible assumption) | omega | (focus (simp; done)) | (focus (simp; omega; done)) | decide); (first | (exact rfl) | (exact tg_hw _) | (exact tg_ctr _) | (exact tg_ecu _) | (exact srch_who) | (exact srch_fd))) | ((with_reducible apply (wpl_loadint (t := 3))); (exact rfl); (exact inferInstance); (exact inferInstance); (first | (with_reducible assumption) | omega)) | ((with_reducible apply (wpl_loadbyte (t := 5))); (exact rfl); (exact inferInstance); (exact inferInstance); (first | (with_reducible assumption) | omega)))
        first
          | refine ⟨⟨k + 1, by omega, by simp, stepN⟩, by simp [intOf]; omega⟩
          | refine ⟨⟨k + 1, by omega, by omega⟩, by simp [intOf]; omega⟩
      · have hltI : ¬ (k : Int) < L := by omega
        obtain rfl : k = L := by omega
        have hend : ((k : Int) == 1) = true := beqT (by have := HLL.out; first | (rw [if_pos (by omega)] at this; omega) | (rw [if_neg (by omega)] at this; omega))
        go_wp2_with (first | go_skip | ((with_reducible apply (wpl_guard (op := .load _ _))); (exact rfl)) | ((with_reducible apply (wpl_guard (op := .indexAddr _ _ _))); (exact rfl)) | ((with_reducible apply (wpl_guard (op := .fieldAddr _ _ _))); (exact rfl)) | ((with_reducible apply wpl_loadrow); (exact rfl); (exact inferInstance); (exact inferInstance); (first | (with_reducible assumption) | (with_reducible exact H32.size _) | (with_reducible exact enc_sz _ rfl) | kernel_rfl)) | ((with_reducible apply wpl_loadcellN); (exact rfl); (exact inferInstance); (first | (exact rfl) | (exact tg_hw _) | (exact tg_ctr _) | (exact tg_ecu _) | (exact srch_who) | (exact srch_fd))))
        refine (sKnown_calls _).mono ?_
        rintro e w2 ⟨rfl, _⟩
        go_wp2_with fail
        go_ret
        exact ⟨rfl, (stepN (w0 := w)).chg⟩
end Go.Proofs.Ytojbbmgghhmgmaa
