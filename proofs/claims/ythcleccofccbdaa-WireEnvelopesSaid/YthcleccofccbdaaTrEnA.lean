/- EnA -/
import Derived.Test.YthcleccofccbdaaTrEnM
import Derived.Test.YthcleccofccbdaaTrRoH
import Derived.Test.YthcleccofccbdaaTrWzB
open Go Go.RowKit
namespace Go.Proofs.Ythcleccofccbdaa
def zeroMk : Array Value := u8s zeroH.l ++ #[.int .i64 0, .slice none 0 0, .slice none 0 0]
instance zeroTMk : ZeroT Try.prog 125 zeroMk := ⟨.agg zeroMk, fun _ => by kernel_rfl, rfl⟩
instance zeroTEnv : ZeroT Try.prog 58 #[.slice none 0 0, .slice none 0 0] := ⟨.agg #[.slice none 0 0, .slice none 0 0], fun _ => by kernel_rfl, rfl⟩
instance cellFMkB : CellT Try.prog 184 := ⟨fun _ => by kernel_rfl, fun _ => by kernel_rfl⟩
instance cellFMk : CellT Try.prog 187 := ⟨fun _ => by kernel_rfl, fun _ => by kernel_rfl⟩
def mkOk (r : MarkR) : Bool := mkOkM r.m
theorem mark_part (r : MarkR) : (((RowC.enc r).toArray.toList).drop 32).take 3 = [.int .i64 r.leaf, .slice r.A r.l.length r.c, .slice r.B r.p.length r.k] := mark_sig r
theorem mark_hash (r : MarkR) : (((RowC.enc r).toArray.toList).drop 0).take 32 = bs r.key.l := mark_key r
set_option maxRecDepth 100000 in
set_option maxHeartbeats 1600000 in
theorem isMark_calls (k : MarkR) (w : World) :
    Calls Try.prog 125 #[.agg (RowC.enc k).toArray] w fun e w' => e = .returned (.bool (mkOk k)) ∧ Step nowhere w w' := by
  have hsz := enc_sz k (n := RowC.size MarkR) rfl
  have hon := enc_one k
  have hpt := mark_part k
  go_enter Try.func125, Try.ntmps125
  go_wp2_with (first | ((with_reducible apply (wpl_loadpart (k := 32) (n := 3))); (exact rfl); (exact ‹HB _ zk _ _›); infer_instance; (decide); (exact hpt); (exact rfl)) | ((with_reducible apply (wpl_box_agg (dst := some 1))); (exact rfl); intro zk wzk _ _ _) | ((with_reducible apply (wpl_box_int (dst := some 1))); (exact rfl); intro zk wzk _ _ _) | ((with_reducible apply (wpl_box_slice (dst := some 1))); (exact rfl); intro zk wzk _ _ _) | ((with_reducible apply (wpl_box_str (dst := some 1))); (exact rfl); intro zk wzk _ _ _) | ((with_reducible apply (wpl_box_bool (dst := some 1))); (exact rfl); intro zk wzk _ _ _) | ((with_reducible apply (wpl_box_ptr (dst := some 1))); (exact rfl); intro zk wzk _ _ _) | ((with_reducible apply wpl_box_agg); (exact rfl); intro z wz _ _ _) | ((with_reducible apply wpl_box_int); (exact rfl); intro z wz _ _ _) | ((with_reducible apply wpl_box_slice); (exact rfl); intro z wz _ _ _) | ((with_reducible apply wpl_box_str); (exact rfl); intro z wz _ _ _) | ((with_reducible apply wpl_box_bool); (exact rfl); intro z wz _ _ _) | ((with_reducible apply wpl_box_ptr); (exact rfl); intro z wz _ _ _) | ((with_reducible apply wpl_loadrow); (exact rfl); infer_instance; infer_instance; (first | (with_reducible assumption) | (with_reducible exact H32.size _) | (with_reducible exact enc_sz _ rfl) | kernel_rfl)) | ((with_reducible apply wpl_loadcellN); (exact rfl); infer_instance; (exact rfl)))
  refine (is_calls _).mono ?_
  rintro e w5 ⟨rfl, _⟩
  go_wp2_with (first | ((with_reducible apply wpl_box_agg); (exact rfl); intro z wz _ _ _) | ((with_reducible apply wpl_box_int); (exact rfl); intro z wz _ _ _) | ((with_reducible apply wpl_box_slice); (exact rfl); intro z wz _ _ _) | ((with_reducible apply wpl_box_str); (exact rfl); intro z wz _ _ _) | ((with_reducible apply wpl_box_bool); (exact rfl); intro z wz _ _ _) | ((with_reducible apply wpl_box_ptr); (exact rfl); intro z wz _ _ _) | ((with_reducible apply wpl_loadrow); (exact rfl); infer_instance; infer_instance; (first | (with_reducible assumption) | (with_reducible exact H32.size _) | (with_reducible exact enc_sz _ rfl) | kernel_rfl)) | ((with_reducible apply wpl_loadcellN); (exact rfl); infer_instance; (exact rfl)))
  go_ret
  exact ⟨rfl, stepN⟩
set_option maxRecDepth 100000 in
set_option maxHeartbeats 1600000 in
theorem notMk_calls (k : MarkR) {w : World} {zi : Nat} {t : TypeId} [hz : HB w zi t #[.func (.func 125) #[] #[]]] :
    Calls Try.prog 178 #[.agg (RowC.enc k).toArray, .pointer (some ⟨zi, 0, none⟩)] w fun e w' => e = .returned (.bool (!mkOk k)) ∧ Step nowhere w w' := by
  have hsz := enc_sz k (n := RowC.size MarkR) rfl
  have hon := enc_one k
  go_enter Try.func178, Try.ntmps178
  go_wp2_with (first | ((with_reducible apply (wpl_box_agg (dst := some 2))); (exact rfl); intro zk wzk _ _ _) | ((with_reducible apply (wpl_box_int (dst := some 2))); (exact rfl); intro zk wzk _ _ _) | ((with_reducible apply (wpl_box_slice (dst := some 2))); (exact rfl); intro zk wzk _ _ _) | ((with_reducible apply (wpl_box_str (dst := some 2))); (exact rfl); intro zk wzk _ _ _) | ((with_reducible apply (wpl_box_bool (dst := some 2))); (exact rfl); intro zk wzk _ _ _) | ((with_reducible apply (wpl_box_ptr (dst := some 2))); (exact rfl); intro zk wzk _ _ _) | ((with_reducible apply wpl_box_agg); (exact rfl); intro z wz _ _ _) | ((with_reducible apply wpl_box_int); (exact rfl); intro z wz _ _ _) | ((with_reducible apply wpl_box_slice); (exact rfl); intro z wz _ _ _) | ((with_reducible apply wpl_box_str); (exact rfl); intro z wz _ _ _) | ((with_reducible apply wpl_box_bool); (exact rfl); intro z wz _ _ _) | ((with_reducible apply wpl_box_ptr); (exact rfl); intro z wz _ _ _) | ((with_reducible apply wpl_loadrow); (exact rfl); infer_instance; infer_instance; (first | (with_reducible assumption) | (with_reducible exact H32.size _) | (with_reducible exact enc_sz _ rfl) | kernel_rfl)) | ((with_reducible apply wpl_loadcellN); (exact rfl); infer_instance; (exact rfl)))
  refine (isMark_calls k _).mono ?_
  rintro e w5 ⟨rfl, _⟩
  go_wp2_with (first | ((with_reducible apply wpl_box_agg); (exact rfl); intro z wz _ _ _) | ((with_reducible apply wpl_box_int); (exact rfl); intro z wz _ _ _) | ((with_reducible apply wpl_box_slice); (exact rfl); intro z wz _ _ _) | ((with_reducible apply wpl_box_str); (exact rfl); intro z wz _ _ _) | ((with_reducible apply wpl_box_bool); (exact rfl); intro z wz _ _ _) | ((with_reducible apply wpl_box_ptr); (exact rfl); intro z wz _ _ _) | ((with_reducible apply wpl_loadrow); (exact rfl); infer_instance; infer_instance; (first | (with_reducible assumption) | (with_reducible exact H32.size _) | (with_reducible exact enc_sz _ rfl) | kernel_rfl)) | ((with_reducible apply wpl_loadcellN); (exact rfl); infer_instance; (exact rfl)))
  go_ret
  exact ⟨rfl, stepN⟩
set_option maxRecDepth 100000 in
set_option maxHeartbeats 1600000 in
theorem idxMk_calls {A : Option Addr} {n c zi : Nat} {t : TypeId} {K : List MarkR} {w : World} [hr : HR w A (cellsOf K)] [hz : HB w zi t #[.func (.func 125) #[] #[]]] (hl : K.length = n) (hmax : n ≤ 9223372036854775807) :
    Calls Try.prog 216 #[.slice A n c, .func (.func 178) #[] #[.pointer (some ⟨zi, 0, none⟩)]] w fun e w' => ∃ r : Int, e = .returned (.int .i64 r) ∧ (0 ≤ r ↔ K.any (fun k => !mkOk k) = true) ∧ Step nowhere w w' := by
  have HL := Lib.hid hl
  obtain ⟨R, hR⟩ : ∃ R, R = K.any (fun k => !mkOk k) := ⟨_, rfl⟩
  rw [← hR]
  have HRR := Lib.hid hR
  clear hR
  go_enter Try.func216, Try.ntmps216
  go_wp2_with (first | ((with_reducible apply wpl_loadrow); (exact rfl); infer_instance; infer_instance; (first | (with_reducible assumption) | (with_reducible exact H32.size _) | (with_reducible exact enc_sz _ rfl) | kernel_rfl)) | ((with_reducible apply wpl_loadcellN); (exact rfl); infer_instance; (exact rfl)) | ((with_reducible apply wpl_indexH); (exact rfl); (exact rfl); infer_instance; infer_instance; (first | (with_reducible assumption) | omega); (first | (with_reducible assumption) | omega); (first | (with_reducible assumption) | omega)) | ((with_reducible apply wpl_indexH'); (exact rfl); (exact rfl); infer_instance; infer_instance; (first | (with_reducible assumption) | omega); (first | (with_reducible assumption) | omega); (first | (with_reducible assumption) | omega)) | ((with_reducible apply (wpl_loadhash (t := 78))); (exact rfl); infer_instance; infer_instance; (first | (with_reducible assumption) | omega)) | ((with_reducible apply (wpl_loadbyteH (t := 5))); (exact rfl); infer_instance; (first | (with_reducible assumption) | omega); (first | (with_reducible assumption) | omega)) | ((with_reducible apply (wpl_indexE (α := MarkR) (t := 56))); (exact rfl); (exact rfl); infer_instance; infer_instance; (first | (with_reducible assumption) | omega | (focus (simp; done)) | (focus (simp; omega; done)) | decide); (exact rfl); (decide); (first | (with_reducible assumption) | omega | (focus (simp; done)) | (focus (simp; omega; done)) | decide)) | ((with_reducible apply (wpl_indexE0 (α := MarkR) (t := 56))); (exact rfl); infer_instance; infer_instance; (first | (with_reducible assumption) | omega | (focus (simp; done)) | (focus (simp; omega; done)) | decide); (exact rfl); (decide); (first | (with_reducible assumption) | omega | (focus (simp; done)) | (focus (simp; omega; done)) | decide)) | ((with_reducible apply (wpl_loadE (α := MarkR) (t := 125))); infer_instance; (exact rfl); infer_instance; (exact rfl); (decide); (first | (with_reducible assumption) | omega | (focus (simp; done)) | (focus (simp; omega; done)) | decide)) | ((with_reducible apply (wpl_loadF (α := MarkR))); infer_instance; (exact rfl); infer_instance; (exact rfl); (first | (with_reducible assumption) | omega | (focus (simp; done)) | (focus (simp; omega; done)) | decide); (exact rfl)) | ((with_reducible apply (wpl_loadint (t := 3))); (exact rfl); infer_instance; infer_instance; (first | (with_reducible assumption) | omega)) | ((with_reducible apply (wpl_loadbyte (t := 5))); (exact rfl); infer_instance; infer_instance; (first | (with_reducible assumption) | omega)))
  go_loopw [8] (fun kv wr => ∃ k : Nat, k ≤ n ∧ kv = .int .i64 (k : Int) ∧ Hid ((K.take k).any (fun k => !mkOk k) = false) ∧ Step nowhere w wr) (fun kv _ => n - (intOf kv).toNat)
  case atStart => exact ⟨0, Nat.zero_le _, rfl, Lib.hid rfl, stepN⟩
  case round =>
    obtain ⟨k, hk, rfl, HJ, _⟩ := hrel
    by_cases hlt : k < n
    · have hltI : (k : Int) < n := by omega
      have hkl : k < K.length := by omega
      have hmem : gt K k ∈ K := gt_mem K k hkl
      have hts : (K.take (k + 1)).any (fun k => !mkOk k) = ((K.take k).any (fun k => !mkOk k) || !mkOk (gt K k)) := by
        rw [← List.take_append_getElem hkl, List.any_append]
        simp [gt, List.getD_eq_getElem?_getD, hkl]
      obtain ⟨V, hV⟩ : ∃ V, V = mkOk (gt K k) := ⟨_, rfl⟩
      rw [HJ.out, Bool.false_or, ← hV] at hts
      have HV := Lib.hid hV
      have HTS := Lib.hid hts
      have HAL : Hid (V = false → R = true) := Lib.hid (fun h => by rw [HRR.out]; exact List.any_eq_true.2 ⟨_, hmem, by rw [← hV, h]; rfl⟩)
      clear hmem hts hV
      go_wp2_with (first | ((with_reducible apply wpl_loadrow); (exact rfl); infer_instance; infer_instance; (first | (with_reducible assumption) | (with_reducible exact H32.size _) | (with_reducible exact enc_sz _ rfl) | kernel_rfl)) | ((with_reducible apply wpl_loadcellN); (exact rfl); infer_instance; (exact rfl)) | ((with_reducible apply wpl_indexH); (exact rfl); (exact rfl); infer_instance; infer_instance; (first | (with_reducible assumption) | omega); (first | (with_reducible assumption) | omega); (first | (with_reducible assumption) | omega)) | ((with_reducible apply wpl_indexH'); (exact rfl); (exact rfl); infer_instance; infer_instance; (first | (with_reducible assumption) | omega); (first | (with_reducible assumption) | omega); (first | (with_reducible assumption) | omega)) | ((with_reducible apply (wpl_loadhash (t := 78))); (exact rfl); infer_instance; infer_instance; (first | (with_reducible assumption) | omega)) | ((with_reducible apply (wpl_loadbyteH (t := 5))); (exact rfl); infer_instance; (first | (with_reducible assumption) | omega); (first | (with_reducible assumption) | omega)) | ((with_reducible apply (wpl_indexE (α := MarkR) (t := 56))); (exact rfl); (exact rfl); infer_instance; infer_instance; (first | (with_reducible assumption) | omega | (focus (simp; done)) | (focus (simp; omega; done)) | decide); (exact rfl); (decide); (first | (with_reducible assumption) | omega | (focus (simp; done)) | (focus (simp; omega; done)) | decide)) | ((with_reducible apply (wpl_indexE0 (α := MarkR) (t := 56))); (exact rfl); infer_instance; infer_instance; (first | (with_reducible assumption) | omega | (focus (simp; done)) | (focus (simp; omega; done)) | decide); (exact rfl); (decide); (first | (with_reducible assumption) | omega | (focus (simp; done)) | (focus (simp; omega; done)) | decide)) | ((with_reducible apply (wpl_loadE (α := MarkR) (t := 125))); infer_instance; (exact rfl); infer_instance; (exact rfl); (decide); (first | (with_reducible assumption) | omega | (focus (simp; done)) | (focus (simp; omega; done)) | decide)) | ((with_reducible apply (wpl_loadF (α := MarkR))); infer_instance; (exact rfl); infer_instance; (exact rfl); (first | (with_reducible assumption) | omega | (focus (simp; done)) | (focus (simp; omega; done)) | decide); (exact rfl)) | ((with_reducible apply (wpl_loadint (t := 3))); (exact rfl); infer_instance; infer_instance; (first | (with_reducible assumption) | omega)) | ((with_reducible apply (wpl_loadbyte (t := 5))); (exact rfl); infer_instance; infer_instance; (first | (with_reducible assumption) | omega)))
      refine (notMk_calls (gt K k)).mono ?_
      rw [← HV.out]
      rintro e w1 ⟨rfl, _⟩
      cases V with
      | false =>
        have HAR : Hid (R = true) := Lib.hid (HAL.out rfl)
        clear HAL
        go_wp2_with (first | ((with_reducible apply wpl_loadrow); (exact rfl); infer_instance; infer_instance; (first | (with_reducible assumption) | (with_reducible exact H32.size _) | (with_reducible exact enc_sz _ rfl) | kernel_rfl)) | ((with_reducible apply wpl_loadcellN); (exact rfl); infer_instance; (exact rfl)) | ((with_reducible apply wpl_indexH); (exact rfl); (exact rfl); infer_instance; infer_instance; (first | (with_reducible assumption) | omega); (first | (with_reducible assumption) | omega); (first | (with_reducible assumption) | omega)) | ((with_reducible apply wpl_indexH'); (exact rfl); (exact rfl); infer_instance; infer_instance; (first | (with_reducible assumption) | omega); (first | (with_reducible assumption) | omega); (first | (with_reducible assumption) | omega)) | ((with_reducible apply (wpl_loadhash (t := 78))); (exact rfl); infer_instance; infer_instance; (first | (with_reducible assumption) | omega)) | ((with_reducible apply (wpl_loadbyteH (t := 5))); (exact rfl); infer_instance; (first | (with_reducible assumption) | omega); (first | (with_reducible assumption) | omega)) | ((with_reducible apply (wpl_indexE (α := MarkR) (t := 56))); (exact rfl); (exact rfl); infer_instance; infer_instance; (first | (with_reducible assumption) | omega | (focus (simp; done)) | (focus (simp; omega; done)) | decide); (exact rfl); (decide); (first | (with_reducible assumption) | omega | (focus (simp; done)) | (focus (simp; omega; done)) | decide)) | ((with_reducible apply (wpl_indexE0 (α := MarkR) (t := 56))); (exact rfl); infer_instance; infer_instance; (first | (with_reducible assumption) | omega | (focus (simp; done)) | (focus (simp; omega; done)) | decide); (exact rfl); (decide); (first | (with_reducible assumption) | omega | (focus (simp; done)) | (focus (simp; omega; done)) | decide)) | ((with_reducible apply (wpl_loadE (α := MarkR) (t := 125))); infer_instance; (exact rfl); infer_instance; (exact rfl); (decide); (first | (with_reducible assumption) | omega | (focus (simp; done)) | (focus (simp; omega; done)) | decide)) | ((with_reducible apply (wpl_loadF (α := MarkR))); infer_instance; (exact rfl); infer_instance; (exact rfl); (first | (with_reducible assumption) | omega | (focus (simp; done)) | (focus (simp; omega; done)) | decide); (exact rfl)) | ((with_reducible apply (wpl_loadint (t := 3))); (exact rfl); infer_instance; infer_instance; (first | (with_reducible assumption) | omega)) | ((with_reducible apply (wpl_loadbyte (t := 5))); (exact rfl); infer_instance; infer_instance; (first | (with_reducible assumption) | omega)))
        go_ret
        exact ⟨_, rfl, ⟨fun _ => HAR.out, fun _ => by omega⟩, stepN⟩
      | true =>
        go_wp2_with (first | ((with_reducible apply wpl_loadrow); (exact rfl); infer_instance; infer_instance; (first | (with_reducible assumption) | (with_reducible exact H32.size _) | (with_reducible exact enc_sz _ rfl) | kernel_rfl)) | ((with_reducible apply wpl_loadcellN); (exact rfl); infer_instance; (exact rfl)) | ((with_reducible apply wpl_indexH); (exact rfl); (exact rfl); infer_instance; infer_instance; (first | (with_reducible assumption) | omega); (first | (with_reducible assumption) | omega); (first | (with_reducible assumption) | omega)) | ((with_reducible apply wpl_indexH'); (exact rfl); (exact rfl); infer_instance; infer_instance; (first | (with_reducible assumption) | omega); (first | (with_reducible assumption) | omega); (first | (with_reducible assumption) | omega)) | ((with_reducible apply (wpl_loadhash (t := 78))); (exact rfl); infer_instance; infer_instance; (first | (with_reducible assumption) | omega)) | ((with_reducible apply (wpl_loadbyteH (t := 5))); (exact rfl); infer_instance; (first | (with_reducible assumption) | omega); (first | (with_reducible assumption) | omega)) | ((with_reducible apply (wpl_indexE (α := MarkR) (t := 56))); (exact rfl); (exact rfl); infer_instance; infer_instance; (first | (with_reducible assumption) | omega | (focus (simp; done)) | (focus (simp; omega; done)) | decide); (exact rfl); (decide); (first | (with_reducible assumption) | omega | (focus (simp; done)) | (focus (simp; omega; done)) | decide)) | ((with_reducible apply (wpl_indexE0 (α := MarkR) (t := 56))); (exact rfl); infer_instance; infer_instance; (first | (with_reducible assumption) | omega | (focus (simp; done)) | (focus (simp; omega; done)) | decide); (exact rfl); (decide); (first | (with_reducible assumption) | omega | (focus (simp; done)) | (focus (simp; omega; done)) | decide)) | ((with_reducible apply (wpl_loadE (α := MarkR) (t := 125))); infer_instance; (exact rfl); infer_instance; (exact rfl); (decide); (first | (with_reducible assumption) | omega | (focus (simp; done)) | (focus (simp; omega; done)) | decide)) | ((with_reducible apply (wpl_loadF (α := MarkR))); infer_instance; (exact rfl); infer_instance; (exact rfl); (first | (with_reducible assumption) | omega | (focus (simp; done)) | (focus (simp; omega; done)) | decide); (exact rfl)) | ((with_reducible apply (wpl_loadint (t := 3))); (exact rfl); infer_instance; infer_instance; (first | (with_reducible assumption) | omega)) | ((with_reducible apply (wpl_loadbyte (t := 5))); (exact rfl); infer_instance; infer_instance; (first | (with_reducible assumption) | omega)))
        exact ⟨⟨k + 1, by omega, by go_num, HTS, stepN⟩, by simp [intOf]; omega⟩
    · have hltI : ¬ (k : Int) < n := by omega
      have HF : Hid (R = false) := Lib.hid (by
        have h1 := HJ.out
        rw [HRR.out]
        rwa [List.take_of_length_le (by omega)] at h1)
      go_wp2_with (first | ((with_reducible apply wpl_loadrow); (exact rfl); infer_instance; infer_instance; (first | (with_reducible assumption) | (with_reducible exact H32.size _) | (with_reducible exact enc_sz _ rfl) | kernel_rfl)) | ((with_reducible apply wpl_loadcellN); (exact rfl); infer_instance; (exact rfl)) | ((with_reducible apply wpl_indexH); (exact rfl); (exact rfl); infer_instance; infer_instance; (first | (with_reducible assumption) | omega); (first | (with_reducible assumption) | omega); (first | (with_reducible assumption) | omega)) | ((with_reducible apply wpl_indexH'); (exact rfl); (exact rfl); infer_instance; infer_instance; (first | (with_reducible assumption) | omega); (first | (with_reducible assumption) | omega); (first | (with_reducible assumption) | omega)) | ((with_reducible apply (wpl_loadhash (t := 78))); (exact rfl); infer_instance; infer_instance; (first | (with_reducible assumption) | omega)) | ((with_reducible apply (wpl_loadbyteH (t := 5))); (exact rfl); infer_instance; (first | (with_reducible assumption) | omega); (first | (with_reducible assumption) | omega)) | ((with_reducible apply (wpl_indexE (α := MarkR) (t := 56))); (exact rfl); (exact rfl); infer_instance; infer_instance; (first | (with_reducible assumption) | omega | (focus (simp; done)) | (focus (simp; omega; done)) | decide); (exact rfl); (decide); (first | (with_reducible assumption) | omega | (focus (simp; done)) | (focus (simp; omega; done)) | decide)) | ((with_reducible apply (wpl_indexE0 (α := MarkR) (t := 56))); (exact rfl); infer_instance; infer_instance; (first | (with_reducible assumption) | omega | (focus (simp; done)) | (focus (simp; omega; done)) | decide); (exact rfl); (decide); (first | (with_reducible assumption) | omega | (focus (simp; done)) | (focus (simp; omega; done)) | decide)) | ((with_reducible apply (wpl_loadE (α := MarkR) (t := 125))); infer_instance; (exact rfl); infer_instance; (exact rfl); (decide); (first | (with_reducible assumption) | omega | (focus (simp; done)) | (focus (simp; omega; done)) | decide)) | ((with_reducible apply (wpl_loadF (α := MarkR))); infer_instance; (exact rfl); infer_instance; (exact rfl); (first | (with_reducible assumption) | omega | (focus (simp; done)) | (focus (simp; omega; done)) | decide); (exact rfl)) | ((with_reducible apply (wpl_loadint (t := 3))); (exact rfl); infer_instance; infer_instance; (first | (with_reducible assumption) | omega)) | ((with_reducible apply (wpl_loadbyte (t := 5))); (exact rfl); infer_instance; infer_instance; (first | (with_reducible assumption) | omega)))
      go_ret
      refine ⟨_, rfl, ⟨fun h => by simp at h, fun h => ?_⟩, stepN⟩
      rw [HF.out] at h
      cases h
set_option maxRecDepth 100000 in
set_option maxHeartbeats 1600000 in
theorem contMk_calls {A : Option Addr} {n c zi : Nat} {t : TypeId} {K : List MarkR} {w : World} [hr : HR w A (cellsOf K)] [hz : HB w zi t #[.func (.func 125) #[] #[]]] (hl : K.length = n) (hmax : n ≤ 9223372036854775807) :
    Calls Try.prog 177 #[.slice A n c, .func (.func 178) #[] #[.pointer (some ⟨zi, 0, none⟩)]] w fun e w' => e = .returned (.bool (K.any (fun k => !mkOk k))) ∧ Step nowhere w w' := by
  go_enter Try.func177, Try.ntmps177
  go_wp2_with (first | fail)
  refine (idxMk_calls (K := K) hl hmax).mono ?_
  rintro e w1 ⟨r, rfl, hr, _⟩
  have hd : decide (0 ≤ r) = K.any (fun k => !mkOk k) := by rw [Bool.eq_iff_iff, decide_eq_true_eq]; exact hr
  have HD := Lib.hid hd
  clear hd hr
  go_wp2_with (first | fail)
  go_ret
  refine ⟨?_, stepN⟩
  rw [← HD.out]
  rfl
set_option maxRecDepth 100000 in
set_option maxHeartbeats 1600000 in
theorem allMk_calls {A : Option Addr} {n c : Nat} {K : List MarkR} {w : World} [hr : HR w A (cellsOf K)] (hl : K.length = n) (hmax : n ≤ 9223372036854775807) :
    Calls Try.prog 124 #[.slice A n c, .func (.func 125) #[] #[]] w fun e w' => e = .returned (.bool (K.all mkOk)) ∧ Step nowhere w w' := by
  have hd : (!K.any (fun k => !mkOk k)) = K.all mkOk := by simp [List.all_eq_not_any_not]
  have HD := Lib.hid hd
  clear hd
  go_enter Try.func124, Try.ntmps124
  go_wp2_with (first | ((with_reducible apply (wpl_box (dst := some 3) (cs := #[.func (.func 125) #[] #[]]))); (exact rfl); (exact rfl); intro bl wbl _ _ _))
  refine (contMk_calls (K := K) hl hmax).mono ?_
  rintro e w5 ⟨rfl, _⟩
  go_wp2_with (first | ((with_reducible apply wpl_box_agg); (exact rfl); intro z wz _ _ _) | ((with_reducible apply wpl_box_int); (exact rfl); intro z wz _ _ _) | ((with_reducible apply wpl_box_slice); (exact rfl); intro z wz _ _ _) | ((with_reducible apply wpl_box_str); (exact rfl); intro z wz _ _ _) | ((with_reducible apply wpl_box_bool); (exact rfl); intro z wz _ _ _) | ((with_reducible apply wpl_box_ptr); (exact rfl); intro z wz _ _ _))
  go_ret
  refine ⟨?_, stepN⟩
  rw [← HD.out]
  rfl
set_option maxRecDepth 100000 in
set_option maxHeartbeats 1600000 in
theorem isEnv_calls {M A : Option Addr} {nb cb n c : Nat} {m : List UInt8} {L : List MarkR} {w : World} [hr : HR w A (cellsOf L)] (hm : m.length = nb) (hl : L.length = n) (hmax : n ≤ 9223372036854775807) (hmb : nb ≤ 9223372036854775807) :
    Calls Try.prog 68 #[.agg #[.slice M nb cb, .slice A n c]] w fun e w' => e = .returned (.bool (envOk m (L.map MarkR.m))) ∧ Step nowhere w w' := by
  obtain ⟨R, hR⟩ : ∃ R, R = envOk m (L.map MarkR.m) := ⟨_, rfl⟩
  have hR2 := hR
  rw [envOk, List.length_map, hm, hl, List.all_map, show mkOkM ∘ MarkR.m = mkOk from rfl] at hR2
  have HR0 := Lib.hid hR2
  rw [← hR]
  clear hR hR2
  by_cases h1 : nb ≤ 8192
  · have h1I : (nb : Int) ≤ 8192 := by omega
    by_cases h2 : n ≤ 4
    · have h2I : (n : Int) ≤ 4 := by omega
      have HF : Hid (R = L.all mkOk) := Lib.hid (by rw [HR0.out, decide_eq_true h1, decide_eq_true h2]; simp)
      go_enter Try.func68, Try.ntmps68
      go_wp2_with (first | go_skip | ((with_reducible apply (wpl_box_agg (dst := some 1))); (exact rfl); intro zt wzt _ _ _) | ((with_reducible apply (wpl_box_int (dst := some 1))); (exact rfl); intro zt wzt _ _ _) | ((with_reducible apply (wpl_box_slice (dst := some 1))); (exact rfl); intro zt wzt _ _ _) | ((with_reducible apply (wpl_box_str (dst := some 1))); (exact rfl); intro zt wzt _ _ _) | ((with_reducible apply (wpl_box_bool (dst := some 1))); (exact rfl); intro zt wzt _ _ _) | ((with_reducible apply (wpl_box_ptr (dst := some 1))); (exact rfl); intro zt wzt _ _ _) | ((with_reducible apply wpl_box_agg); (exact rfl); intro z wz _ _ _) | ((with_reducible apply wpl_box_int); (exact rfl); intro z wz _ _ _) | ((with_reducible apply wpl_box_slice); (exact rfl); intro z wz _ _ _) | ((with_reducible apply wpl_box_str); (exact rfl); intro z wz _ _ _) | ((with_reducible apply wpl_box_bool); (exact rfl); intro z wz _ _ _) | ((with_reducible apply wpl_box_ptr); (exact rfl); intro z wz _ _ _) | ((with_reducible apply (wpl_guard (op := .load _ _))); (exact rfl)) | ((with_reducible apply (wpl_guard (op := .fieldAddr _ _ _))); (exact rfl)) | ((with_reducible apply wpl_loadrow); (exact rfl); infer_instance; infer_instance; (first | (with_reducible assumption) | (with_reducible exact H32.size _) | (with_reducible exact enc_sz _ rfl) | kernel_rfl)) | ((with_reducible apply wpl_loadcellN); (exact rfl); infer_instance; (exact rfl)))
      refine (allMk_calls (K := L) hl hmax).mono ?_
      rintro e w7 ⟨rfl, _⟩
      go_wp2_with (first | go_skip | ((with_reducible apply wpl_box_agg); (exact rfl); intro z wz _ _ _) | ((with_reducible apply wpl_box_int); (exact rfl); intro z wz _ _ _) | ((with_reducible apply wpl_box_slice); (exact rfl); intro z wz _ _ _) | ((with_reducible apply wpl_box_str); (exact rfl); intro z wz _ _ _) | ((with_reducible apply wpl_box_bool); (exact rfl); intro z wz _ _ _) | ((with_reducible apply wpl_box_ptr); (exact rfl); intro z wz _ _ _) | ((with_reducible apply (wpl_guard (op := .load _ _))); (exact rfl)) | ((with_reducible apply (wpl_guard (op := .fieldAddr _ _ _))); (exact rfl)) | ((with_reducible apply wpl_loadrow); (exact rfl); infer_instance; infer_instance; (first | (with_reducible assumption) | (with_reducible exact H32.size _) | (with_reducible exact enc_sz _ rfl) | kernel_rfl)) | ((with_reducible apply wpl_loadcellN); (exact rfl); infer_instance; (exact rfl)))
      go_ret
      rw [HF.out]
      exact ⟨rfl, stepN⟩
    · have h2I : ¬ (n : Int) ≤ 4 := by omega
      have HF : Hid (R = false) := Lib.hid (by rw [HR0.out, decide_eq_false h2]; simp)
      go_enter Try.func68, Try.ntmps68
      go_wp2_with (first | go_skip | ((with_reducible apply (wpl_guard (op := .call _))); (exact rfl)) | ((with_reducible apply (wpl_box_agg (dst := some 1))); (exact rfl); intro zt wzt _ _ _) | ((with_reducible apply (wpl_box_int (dst := some 1))); (exact rfl); intro zt wzt _ _ _) | ((with_reducible apply (wpl_box_slice (dst := some 1))); (exact rfl); intro zt wzt _ _ _) | ((with_reducible apply (wpl_box_str (dst := some 1))); (exact rfl); intro zt wzt _ _ _) | ((with_reducible apply (wpl_box_bool (dst := some 1))); (exact rfl); intro zt wzt _ _ _) | ((with_reducible apply (wpl_box_ptr (dst := some 1))); (exact rfl); intro zt wzt _ _ _) | ((with_reducible apply wpl_box_agg); (exact rfl); intro z wz _ _ _) | ((with_reducible apply wpl_box_int); (exact rfl); intro z wz _ _ _) | ((with_reducible apply wpl_box_slice); (exact rfl); intro z wz _ _ _) | ((with_reducible apply wpl_box_str); (exact rfl); intro z wz _ _ _) | ((with_reducible apply wpl_box_bool); (exact rfl); intro z wz _ _ _) | ((with_reducible apply wpl_box_ptr); (exact rfl); intro z wz _ _ _) | ((with_reducible apply (wpl_guard (op := .load _ _))); (exact rfl)) | ((with_reducible apply (wpl_guard (op := .fieldAddr _ _ _))); (exact rfl)) | ((with_reducible apply wpl_loadrow); (exact rfl); infer_instance; infer_instance; (first | (with_reducible assumption) | (with_reducible exact H32.size _) | (with_reducible exact enc_sz _ rfl) | kernel_rfl)) | ((with_reducible apply wpl_loadcellN); (exact rfl); infer_instance; (exact rfl)))
      go_ret
      rw [HF.out]
      exact ⟨rfl, stepN⟩
  · have h1I : ¬ (nb : Int) ≤ 8192 := by omega
    have HF : Hid (R = false) := Lib.hid (by rw [HR0.out, decide_eq_false h1]; simp)
    go_enter Try.func68, Try.ntmps68
    go_wp2_with (first | go_skip | ((with_reducible apply (wpl_guard (op := .call _))); (exact rfl)) | ((with_reducible apply (wpl_box_agg (dst := some 1))); (exact rfl); intro zt wzt _ _ _) | ((with_reducible apply (wpl_box_int (dst := some 1))); (exact rfl); intro zt wzt _ _ _) | ((with_reducible apply (wpl_box_slice (dst := some 1))); (exact rfl); intro zt wzt _ _ _) | ((with_reducible apply (wpl_box_str (dst := some 1))); (exact rfl); intro zt wzt _ _ _) | ((with_reducible apply (wpl_box_bool (dst := some 1))); (exact rfl); intro zt wzt _ _ _) | ((with_reducible apply (wpl_box_ptr (dst := some 1))); (exact rfl); intro zt wzt _ _ _) | ((with_reducible apply wpl_box_agg); (exact rfl); intro z wz _ _ _) | ((with_reducible apply wpl_box_int); (exact rfl); intro z wz _ _ _) | ((with_reducible apply wpl_box_slice); (exact rfl); intro z wz _ _ _) | ((with_reducible apply wpl_box_str); (exact rfl); intro z wz _ _ _) | ((with_reducible apply wpl_box_bool); (exact rfl); intro z wz _ _ _) | ((with_reducible apply wpl_box_ptr); (exact rfl); intro z wz _ _ _) | ((with_reducible apply (wpl_guard (op := .load _ _))); (exact rfl)) | ((with_reducible apply (wpl_guard (op := .fieldAddr _ _ _))); (exact rfl)) | ((with_reducible apply wpl_loadrow); (exact rfl); infer_instance; infer_instance; (first | (with_reducible assumption) | (with_reducible exact H32.size _) | (with_reducible exact enc_sz _ rfl) | kernel_rfl)) | ((with_reducible apply wpl_loadcellN); (exact rfl); infer_instance; (exact rfl)))
    go_ret
    rw [HF.out]
    exact ⟨rfl, stepN⟩
end Go.Proofs.Ythcleccofccbdaa
