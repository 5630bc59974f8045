/- EnG -/
import Derived.Test.YthcleccofccbdaaTrEnC
import Derived.Test.YthcleccofccbdaaTrWzB
import Derived.Test.YthcleccofccbdaaTrOcRfC
import Derived.Test.YthcleccofccbdaaTrKyQ
open Go Go.RowKit
namespace Go.Proofs.Ythcleccofccbdaa
theorem marksE_take (L : List MarkR) (k : Nat) (h : k < L.length) : marksE ((L.take (k + 1)).map MarkR.m) = marksE ((L.take k).map MarkR.m) ++ mkME (gt L k).m := by
  rw [← List.take_append_getElem h, List.map_append, marksE, List.flatMap_append]
  simp [gt, List.getD_eq_getElem?_getD, h, marksE]
set_option maxRecDepth 100000 in
set_option maxHeartbeats 3200000 in
theorem rIsEnv_calls {M A : Option Addr} {nb cb n c : Nat} {m : List UInt8} {L : List MarkR} {w : World} [hr : HR w A (cellsOf L)] (hm : m.length = nb) (hl : L.length = n) (hmax : n ≤ 9223372036854775807) (hmb : nb ≤ 9223372036854775807) :
    Calls Try.prog 70 #[.agg #[.slice M nb cb, .slice A n c]] w fun e w' => e = .returned (.bool (envOk m (L.map MarkR.m))) ∧ Step nowhere w w' := by
  have HRR := Lib.hid hr.out
  have HL := Lib.hid hl
  obtain ⟨R, hR⟩ : ∃ R, R = envOk m (L.map MarkR.m) := ⟨_, rfl⟩
  have hR2 := hR
  rw [envOk, List.length_map, hm, hl, List.all_map, show mkOkM ∘ MarkR.m = mkOk from rfl] at hR2
  have HR0 := Lib.hid hR2
  rw [← hR]
  clear hR hR2 hl hm
  by_cases h1 : nb ≤ 8192
  rotate_left
  · have h1I : 8192 < (nb : Int) := by omega
    have HF : Hid (R = false) := Lib.hid (by rw [HR0.out, decide_eq_false h1]; simp)
    go_enter Try.func70, Try.ntmps70
    go_wp2_with (first | go_skip | ((with_reducible apply (wpl_box_agg (dst := some 1))); (exact rfl); intro zt wzt _ _ _) | ((with_reducible apply (wpl_box_int (dst := some 1))); (exact rfl); intro zt wzt _ _ _) | ((with_reducible apply (wpl_box_slice (dst := some 1))); (exact rfl); intro zt wzt _ _ _) | ((with_reducible apply (wpl_box_str (dst := some 1))); (exact rfl); intro zt wzt _ _ _) | ((with_reducible apply (wpl_box_bool (dst := some 1))); (exact rfl); intro zt wzt _ _ _) | ((with_reducible apply (wpl_box_ptr (dst := some 1))); (exact rfl); intro zt wzt _ _ _) | ((with_reducible apply wpl_box_agg); (exact rfl); intro z wz _ _ _) | ((with_reducible apply wpl_box_int); (exact rfl); intro z wz _ _ _) | ((with_reducible apply wpl_box_slice); (exact rfl); intro z wz _ _ _) | ((with_reducible apply wpl_box_str); (exact rfl); intro z wz _ _ _) | ((with_reducible apply wpl_box_bool); (exact rfl); intro z wz _ _ _) | ((with_reducible apply wpl_box_ptr); (exact rfl); intro z wz _ _ _) | ((with_reducible apply (wpl_guard (op := .load _ _))); (exact rfl)) | ((with_reducible apply (wpl_guard (op := .fieldAddr _ _ _))); (exact rfl)) | ((with_reducible apply wpl_loadrow); (exact rfl); infer_instance; infer_instance; (first | (with_reducible assumption) | (with_reducible exact H32.size _) | (with_reducible exact enc_sz _ rfl) | kernel_rfl)) | ((with_reducible apply wpl_loadcellN); (exact rfl); infer_instance; (exact rfl)))
    go_ret
    rw [HF.out]
    exact ⟨rfl, stepN⟩
  have h1I : ¬ 8192 < (nb : Int) := by omega
  by_cases h2 : n ≤ 4
  rotate_left
  · have h2I : 4 < (n : Int) := by omega
    have HF : Hid (R = false) := Lib.hid (by rw [HR0.out, decide_eq_false h2]; simp)
    go_enter Try.func70, Try.ntmps70
    go_wp2_with (first | go_skip | ((with_reducible apply (wpl_box_agg (dst := some 1))); (exact rfl); intro zt wzt _ _ _) | ((with_reducible apply (wpl_box_int (dst := some 1))); (exact rfl); intro zt wzt _ _ _) | ((with_reducible apply (wpl_box_slice (dst := some 1))); (exact rfl); intro zt wzt _ _ _) | ((with_reducible apply (wpl_box_str (dst := some 1))); (exact rfl); intro zt wzt _ _ _) | ((with_reducible apply (wpl_box_bool (dst := some 1))); (exact rfl); intro zt wzt _ _ _) | ((with_reducible apply (wpl_box_ptr (dst := some 1))); (exact rfl); intro zt wzt _ _ _) | ((with_reducible apply wpl_box_agg); (exact rfl); intro z wz _ _ _) | ((with_reducible apply wpl_box_int); (exact rfl); intro z wz _ _ _) | ((with_reducible apply wpl_box_slice); (exact rfl); intro z wz _ _ _) | ((with_reducible apply wpl_box_str); (exact rfl); intro z wz _ _ _) | ((with_reducible apply wpl_box_bool); (exact rfl); intro z wz _ _ _) | ((with_reducible apply wpl_box_ptr); (exact rfl); intro z wz _ _ _) | ((with_reducible apply (wpl_guard (op := .load _ _))); (exact rfl)) | ((with_reducible apply (wpl_guard (op := .fieldAddr _ _ _))); (exact rfl)) | ((with_reducible apply wpl_loadrow); (exact rfl); infer_instance; infer_instance; (first | (with_reducible assumption) | (with_reducible exact H32.size _) | (with_reducible exact enc_sz _ rfl) | kernel_rfl)) | ((with_reducible apply wpl_loadcellN); (exact rfl); infer_instance; (exact rfl)))
    go_ret
    rw [HF.out]
    exact ⟨rfl, stepN⟩
  have h2I : ¬ 4 < (n : Int) := by omega
  have HF : Hid (R = L.all mkOk) := Lib.hid (by rw [HR0.out, decide_eq_true h1, decide_eq_true h2]; simp)
  go_enter Try.func70, Try.ntmps70
  go_wp2_with (first | go_skip | ((with_reducible apply (wpl_box_agg (dst := some 1))); (exact rfl); intro zt wzt _ _ _) | ((with_reducible apply (wpl_box_int (dst := some 1))); (exact rfl); intro zt wzt _ _ _) | ((with_reducible apply (wpl_box_slice (dst := some 1))); (exact rfl); intro zt wzt _ _ _) | ((with_reducible apply (wpl_box_str (dst := some 1))); (exact rfl); intro zt wzt _ _ _) | ((with_reducible apply (wpl_box_bool (dst := some 1))); (exact rfl); intro zt wzt _ _ _) | ((with_reducible apply (wpl_box_ptr (dst := some 1))); (exact rfl); intro zt wzt _ _ _) | ((with_reducible apply wpl_box_agg); (exact rfl); intro z wz _ _ _) | ((with_reducible apply wpl_box_int); (exact rfl); intro z wz _ _ _) | ((with_reducible apply wpl_box_slice); (exact rfl); intro z wz _ _ _) | ((with_reducible apply wpl_box_str); (exact rfl); intro z wz _ _ _) | ((with_reducible apply wpl_box_bool); (exact rfl); intro z wz _ _ _) | ((with_reducible apply wpl_box_ptr); (exact rfl); intro z wz _ _ _) | ((with_reducible apply (wpl_guard (op := .load _ _))); (exact rfl)) | ((with_reducible apply (wpl_guard (op := .fieldAddr _ _ _))); (exact rfl)) | ((with_reducible apply wpl_loadrow); (exact rfl); infer_instance; infer_instance; (first | (with_reducible assumption) | (with_reducible exact H32.size _) | (with_reducible exact enc_sz _ rfl) | kernel_rfl)) | ((with_reducible apply wpl_loadcellN); (exact rfl); infer_instance; (exact rfl)))
  go_loopw [3] (fun iv wr => ∃ k : Nat, k ≤ n ∧ iv = .int .i64 (k : Int) ∧ Hid ((L.take k).all mkOk = true) ∧ Step nowhere w wr ∧ HB wr zt 58 #[.slice M nb cb, .slice A n c]) (fun iv _ => n - (intOf iv).toNat)
  case atStart => exact ⟨0, Nat.zero_le _, rfl, Lib.hid rfl, stepN, inferInstance⟩
  case round =>
    obtain ⟨k, hk, rfl, HJ, st, ht⟩ := hrel
    have hrw : HR wr A (cellsOf L) := ⟨HRR.out.later st.chg⟩
    by_cases hlt : k < n
    · have hltI : (k : Int) < n := by omega
      have hl : L.length = n := HL.out
      have hkl : k < L.length := by omega
      have hsg := mark_sig (gt L k)
      have hts : (L.take (k + 1)).all mkOk = ((L.take k).all mkOk && mkOk (gt L k)) := by
        rw [← List.take_append_getElem hkl, List.all_append]
        simp [gt, List.getD_eq_getElem?_getD, hkl]
      obtain ⟨V, hV⟩ : ∃ V, V = mkOk (gt L k) := ⟨_, rfl⟩
      have hV2 : isS (gt L k).leaf (gt L k).l.length (gt L k).p.length = V := hV.symm
      rw [HJ.out, Bool.true_and, ← hV] at hts
      have HTS := Lib.hid hts
      have HV := Lib.hid hV2
      have HNO : Hid (V = false → R = false) := Lib.hid (fun h => by
        rw [HF.out, ← Bool.not_eq_true, List.all_eq_true]
        intro h9
        have h8 := h9 _ (gt_mem L k hkl)
        rw [← hV, h] at h8
        cases h8)
      clear hts hV hV2
      go_wp2_with (first | go_skip | ((with_reducible apply (wpl_loadEP (α := MarkR) (k := k) (j := 32) (s := 35))); infer_instance; (exact rfl); infer_instance; (exact rfl); (decide); (exact hkl); (exact hsg); (exact rfl)) | ((with_reducible apply wpl_box_agg); (exact rfl); intro z wz _ _ _) | ((with_reducible apply wpl_box_int); (exact rfl); intro z wz _ _ _) | ((with_reducible apply wpl_box_slice); (exact rfl); intro z wz _ _ _) | ((with_reducible apply wpl_box_str); (exact rfl); intro z wz _ _ _) | ((with_reducible apply wpl_box_bool); (exact rfl); intro z wz _ _ _) | ((with_reducible apply wpl_box_ptr); (exact rfl); intro z wz _ _ _) | ((with_reducible apply (wpl_guard (op := .load _ _))); (exact rfl)) | ((with_reducible apply (wpl_guard (op := .fieldAddr _ _ _))); (exact rfl)) | ((with_reducible apply wpl_loadrow); (exact rfl); infer_instance; infer_instance; (first | (with_reducible assumption) | (with_reducible exact H32.size _) | (with_reducible exact enc_sz _ rfl) | kernel_rfl)) | ((with_reducible apply wpl_loadcellN); (exact rfl); infer_instance; (exact rfl)) | ((with_reducible apply wpl_indexH); (exact rfl); (exact rfl); infer_instance; infer_instance; (first | (with_reducible assumption) | omega); (first | (with_reducible assumption) | omega); (first | (with_reducible assumption) | omega)) | ((with_reducible apply wpl_indexH'); (exact rfl); (exact rfl); infer_instance; infer_instance; (first | (with_reducible assumption) | omega); (first | (with_reducible assumption) | omega); (first | (with_reducible assumption) | omega)) | ((with_reducible apply (wpl_loadhash (t := 78))); (exact rfl); infer_instance; infer_instance; (first | (with_reducible assumption) | omega)) | ((with_reducible apply (wpl_loadbyteH (t := 5))); (exact rfl); infer_instance; (first | (with_reducible assumption) | omega); (first | (with_reducible assumption) | omega)) | ((with_reducible apply (wpl_indexE (α := MarkR) (t := 56))); (exact rfl); (exact rfl); infer_instance; infer_instance; (first | (with_reducible assumption) | omega | (focus (simp; done)) | (focus (simp; omega; done)) | decide); (exact rfl); (decide); (first | (with_reducible assumption) | omega | (focus (simp; done)) | (focus (simp; omega; done)) | decide)) | ((with_reducible apply (wpl_indexE0 (α := MarkR) (t := 56))); (exact rfl); infer_instance; infer_instance; (first | (with_reducible assumption) | omega | (focus (simp; done)) | (focus (simp; omega; done)) | decide); (exact rfl); (decide); (first | (with_reducible assumption) | omega | (focus (simp; done)) | (focus (simp; omega; done)) | decide)) | ((with_reducible apply (wpl_loadE (α := MarkR) (t := 125))); infer_instance; (exact rfl); infer_instance; (exact rfl); (decide); (first | (with_reducible assumption) | omega | (focus (simp; done)) | (focus (simp; omega; done)) | decide)) | ((with_reducible apply (wpl_fieldE (t := 125))); (exact Try.underlying125); (exact rfl); (kernel_rfl); (exact rfl); infer_instance; (exact cells_pos (by decide) (by omega))) | ((with_reducible apply (wpl_loadF (α := MarkR))); infer_instance; (exact rfl); infer_instance; (exact rfl); (first | (with_reducible assumption) | omega | (focus (simp; done)) | (focus (simp; omega; done)) | decide); (exact rfl)) | ((with_reducible apply (wpl_loadint (t := 3))); (exact rfl); infer_instance; infer_instance; (first | (with_reducible assumption) | omega)) | ((with_reducible apply (wpl_loadbyte (t := 5))); (exact rfl); infer_instance; infer_instance; (first | (with_reducible assumption) | omega)))
      refine (ris_calls _).mono ?_
      rw [HV.out]
      rintro e w5 ⟨rfl, _⟩
      cases V
      case false =>
        have HFF : Hid (R = false) := Lib.hid (HNO.out rfl)
        go_wp2_with (first | go_skip | ((with_reducible apply wpl_box_agg); (exact rfl); intro z wz _ _ _) | ((with_reducible apply wpl_box_int); (exact rfl); intro z wz _ _ _) | ((with_reducible apply wpl_box_slice); (exact rfl); intro z wz _ _ _) | ((with_reducible apply wpl_box_str); (exact rfl); intro z wz _ _ _) | ((with_reducible apply wpl_box_bool); (exact rfl); intro z wz _ _ _) | ((with_reducible apply wpl_box_ptr); (exact rfl); intro z wz _ _ _) | ((with_reducible apply (wpl_guard (op := .load _ _))); (exact rfl)) | ((with_reducible apply (wpl_guard (op := .fieldAddr _ _ _))); (exact rfl)) | ((with_reducible apply wpl_loadrow); (exact rfl); infer_instance; infer_instance; (first | (with_reducible assumption) | (with_reducible exact H32.size _) | (with_reducible exact enc_sz _ rfl) | kernel_rfl)) | ((with_reducible apply wpl_loadcellN); (exact rfl); infer_instance; (exact rfl)))
        go_ret
        rw [HFF.out]
        exact ⟨rfl, stepN⟩
      case true =>
        go_wp2_with (first | go_skip | ((with_reducible apply wpl_box_agg); (exact rfl); intro z wz _ _ _) | ((with_reducible apply wpl_box_int); (exact rfl); intro z wz _ _ _) | ((with_reducible apply wpl_box_slice); (exact rfl); intro z wz _ _ _) | ((with_reducible apply wpl_box_str); (exact rfl); intro z wz _ _ _) | ((with_reducible apply wpl_box_bool); (exact rfl); intro z wz _ _ _) | ((with_reducible apply wpl_box_ptr); (exact rfl); intro z wz _ _ _) | ((with_reducible apply (wpl_guard (op := .load _ _))); (exact rfl)) | ((with_reducible apply (wpl_guard (op := .fieldAddr _ _ _))); (exact rfl)) | ((with_reducible apply wpl_loadrow); (exact rfl); infer_instance; infer_instance; (first | (with_reducible assumption) | (with_reducible exact H32.size _) | (with_reducible exact enc_sz _ rfl) | kernel_rfl)) | ((with_reducible apply wpl_loadcellN); (exact rfl); infer_instance; (exact rfl)))
        exact ⟨⟨k + 1, by omega, by go_num, HTS, stepN, inferInstance⟩, by simp [intOf]; omega⟩
    · have hltI : ¬ (k : Int) < n := by omega
      have HT : Hid (R = true) := Lib.hid (by
        have h9 := HJ.out
        rw [List.take_of_length_le (by have := HL.out; omega)] at h9
        rw [HF.out, h9])
      go_wp2_with (first | go_skip | ((with_reducible apply wpl_box_agg); (exact rfl); intro z wz _ _ _) | ((with_reducible apply wpl_box_int); (exact rfl); intro z wz _ _ _) | ((with_reducible apply wpl_box_slice); (exact rfl); intro z wz _ _ _) | ((with_reducible apply wpl_box_str); (exact rfl); intro z wz _ _ _) | ((with_reducible apply wpl_box_bool); (exact rfl); intro z wz _ _ _) | ((with_reducible apply wpl_box_ptr); (exact rfl); intro z wz _ _ _) | ((with_reducible apply (wpl_guard (op := .load _ _))); (exact rfl)) | ((with_reducible apply (wpl_guard (op := .fieldAddr _ _ _))); (exact rfl)) | ((with_reducible apply wpl_loadrow); (exact rfl); infer_instance; infer_instance; (first | (with_reducible assumption) | (with_reducible exact H32.size _) | (with_reducible exact enc_sz _ rfl) | kernel_rfl)) | ((with_reducible apply wpl_loadcellN); (exact rfl); infer_instance; (exact rfl)))
      go_ret
      rw [HT.out]
      exact ⟨rfl, stepN⟩
end Go.Proofs.Ythcleccofccbdaa
