/- TgB -/
import Derived.Test.YtmnapacibpnodaaGreatUeTgA
open Go Go.RowKit
namespace Go.Proofs.YtmnapacibpnodaaGreat
theorem bytesLess_irr : ∀ a : List UInt8, Op.bytesLess a a = false
  | [] => rfl
  | a :: x => by simp [Op.bytesLess, bytesLess_irr x]
def tgLt (a b : TargetR) : Bool := Op.bytesLess a.l b.l || (decide (a.l = b.l) && Op.bytesLess a.ecu b.ecu)
/-- each above the one ahead of it, of the first -/
def riseT (P : List TargetR) : Nat → Bool
  | 0 => true
  | k + 1 => riseT P k && (decide (k = 0) || tgLt (gt P (k - 1)) (gt P k))
theorem riseT_no (P : List TargetR) (k : Nat) (h : riseT P k = false) : ∀ n, k ≤ n → riseT P n = false
  | 0, hn => by
    obtain rfl : k = 0 := by omega
    exact h
  | n + 1, hn => by
    by_cases e : k = n + 1
    · subst e; exact h
    · rw [riseT, riseT_no P k h n (by omega), Bool.false_and]
set_option maxRecDepth 100000 in
set_option maxHeartbeats 1600000 in
theorem compareE_calls (a b : List UInt8) (w : World) : Calls Tryz.prog 33 #[.string (strL a), .string (strL b)] w fun e w' => ∃ r : Int, e = .returned (.int .i64 r) ∧ ((r < 0 ↔ Op.bytesLess a b = true) ∧ (r = 0 ↔ a = b)) ∧ w' = w := by
  cases hlt : Op.bytesLess a b
  case true =>
    have h1 : Op.bytesLess (strL a).toList (strL b).toList = true := by rw [strL_list, strL_list]; exact hlt
    have hne : Hid (a ≠ b) := Lib.hid (fun h => by rw [h, bytesLess_irr] at hlt; cases hlt)
    go_enter Tryz.func33, Tryz.ntmps33
    go_wp2_with fail
    refine (isNaN_calls _ _).mono ?_
    rintro e w1 ⟨rfl, rfl⟩
    go_wp2_with fail
    refine (isNaN_calls _ _).mono ?_
    rintro e w1 ⟨rfl, rfl⟩
    go_wp2_with fail
    go_ret
    exact ⟨-1, rfl, ⟨⟨fun _ => by first | trivial | rfl, fun _ => by decide⟩, ⟨fun h => absurd h (by decide), fun h => absurd h hne.out⟩⟩, rfl⟩
  case false =>
    have h1 : Op.bytesLess (strL a).toList (strL b).toList = false := by rw [strL_list, strL_list]; exact hlt
    obtain ⟨G, hG⟩ : ∃ G, G = !(Op.bytesLess (strL a).toList (strL b).toList || (strL a).toList == (strL b).toList) := ⟨_, rfl⟩
    have h2 : ∀ w, (binOp .gtr 9 (.string (strL a)) (.string (strL b))).run Tryz.prog w = .ok (.bool G) w := fun w => by
      rw [hG]
      simp [binOp, Op.stringOp]
    have HG : Hid (G = !decide (a = b)) := Lib.hid (by
      rw [hG, strL_list, strL_list, hlt, Bool.false_or]
      congr 1
      rw [Bool.eq_iff_iff]
      simp)
    clear hG
    cases G
    case false =>
      have hE : Hid (a = b) := Lib.hid (by simpa using HG.out)
      clear HG
      go_enter Tryz.func33, Tryz.ntmps33
      go_wp2_with fail
      refine (isNaN_calls _ _).mono ?_
      rintro e w1 ⟨rfl, rfl⟩
      go_wp2_with fail
      refine (isNaN_calls _ _).mono ?_
      rintro e w1 ⟨rfl, rfl⟩
      go_wp2_with fail
      go_ret
      refine ⟨0, rfl, ⟨⟨fun h => absurd h (by decide), fun h => by first | cases h | simp at h⟩, ⟨fun _ => hE.out, fun _ => rfl⟩⟩, rfl⟩
    case true =>
      have hE : Hid (a ≠ b) := Lib.hid (by simpa using HG.out)
      clear HG
      go_enter Tryz.func33, Tryz.ntmps33
      go_wp2_with fail
      refine (isNaN_calls _ _).mono ?_
      rintro e w1 ⟨rfl, rfl⟩
      go_wp2_with fail
      refine (isNaN_calls _ _).mono ?_
      rintro e w1 ⟨rfl, rfl⟩
      go_wp2_with fail
      go_ret
      refine ⟨1, rfl, ⟨⟨fun h => absurd h (by decide), fun h => by first | cases h | simp at h⟩, ⟨fun h => absurd h (by decide), fun h => absurd h hE.out⟩⟩, rfl⟩
set_option maxRecDepth 100000 in
set_option maxHeartbeats 1600000 in
theorem cmpOr_calls (p q : Int) {z : Nat} {w : World} [hz : HB w z 3 #[.int .i64 p, .int .i64 q]] :
    Calls Tryz.prog 137 #[.slice (some ⟨z, 0, none⟩) 2 2] w fun e w' => e = .returned (.int .i64 (if p = 0 then q else p)) ∧ w' = w := by
  have hr : HR w (some ⟨z, 0, none⟩) [.int .i64 p, .int .i64 q] := ⟨by simpa using hz.rdL⟩
  obtain ⟨R, hR⟩ : ∃ R, R = if p = 0 then q else p := ⟨_, rfl⟩
  have HRR := Lib.hid hR
  rw [← hR]
  clear hR
  go_enter Tryz.func137, Tryz.ntmps137
  go_wp2_with fail
  go_loopw [8] (fun iv wr => ∃ k : Nat, k ≤ 2 ∧ iv = .int .i64 (k : Int) ∧ wr = w ∧ Hid (1 ≤ k → p = 0) ∧ Hid (2 ≤ k → q = 0)) (fun iv _ => 2 - (intOf iv).toNat)
  case atStart => exact ⟨0, by decide, rfl, rfl, Lib.hid (fun h => absurd h (by decide)), Lib.hid (fun h => absurd h (by decide))⟩
  case round =>
    obtain ⟨k, hk, rfl, rfl, h1, h2⟩ := hrel
    rcases (show k = 0 ∨ k = 1 ∨ k = 2 by omega) with rfl | rfl | rfl
    · by_cases hp : p = 0
      · have hq : (p != 0) = false := by simp [hp]
        have HP := Lib.hid hp
        clear hp
        go_wp2_with (first | ((with_reducible apply wpl_loadcellN); (exact rfl); infer_instance; (exact rfl)))
        exact ⟨⟨1, by decide, by first | rfl | trivial, by first | rfl | trivial, Lib.hid (fun _ => HP.out), Lib.hid (fun h => absurd h (by decide))⟩, by simp [intOf]⟩
      · have hq : (p != 0) = true := by simp [hp]
        have HF : Hid (R = p) := Lib.hid (by rw [HRR.out, if_neg hp])
        clear hp
        go_wp2_with (first | ((with_reducible apply wpl_loadcellN); (exact rfl); infer_instance; (exact rfl)))
        go_ret
        rw [HF.out]
        exact ⟨rfl, rfl⟩
    · have hF0 : R = q := by rw [HRR.out, if_pos (h1.out (by decide))]
      have HF := Lib.hid hF0
      have HP0 := Lib.hid (h1.out (by decide))
      clear hF0
      by_cases hp : q = 0
      · have hq : (q != 0) = false := by simp [hp]
        have HP := Lib.hid hp
        clear hp
        go_wp2_with (first | ((with_reducible apply wpl_loadcellN); (exact rfl); infer_instance; (exact rfl)))
        exact ⟨⟨2, by decide, by first | rfl | trivial, by first | rfl | trivial, Lib.hid (fun _ => HP0.out), Lib.hid (fun _ => HP.out)⟩, by simp [intOf]⟩
      · have hq : (q != 0) = true := by simp [hp]
        clear hp
        go_wp2_with (first | ((with_reducible apply wpl_loadcellN); (exact rfl); infer_instance; (exact rfl)))
        go_ret
        rw [HF.out]
        exact ⟨rfl, rfl⟩
    · have HF : Hid (R = 0) := Lib.hid (by rw [HRR.out, if_pos (h1.out (by decide)), h2.out (by decide)])
      go_wp2_with fail
      go_ret
      rw [HF.out]
      exact ⟨rfl, rfl⟩
set_option maxRecDepth 100000 in
set_option maxHeartbeats 1600000 in
theorem compareTargets_calls (a b : TargetR) (w : World) : Calls Tryz.prog 127 #[.agg (RowC.enc a).toArray, .agg (RowC.enc b).toArray] w fun e w' => ∃ r : Int, e = .returned (.int .i64 r) ∧ (r < 0 ↔ tgLt a b = true) ∧ Step nowhere w w' := by
  have hsa : (RowC.enc a).toArray.size = 37 := tgR_len a
  have hsb : (RowC.enc b).toArray.size = 37 := tgR_len b
  have hoa := enc_one a
  have hob := enc_one b
  go_enter Tryz.func127, Tryz.ntmps127
  go_wp2_with (first | ((with_reducible apply (wpl_box_agg (dst := some 2))); (exact rfl); intro za wza _ _ _) | ((with_reducible apply (wpl_box_agg (dst := some 3))); (exact rfl); intro zb wzb _ _ _))
  have hA : HB wzb za 76 (RowC.enc a).toArray := inferInstance
  have hB : HB wzb zb 76 (RowC.enc b).toArray := inferInstance
  refine wp_region_N (nowhere) (by kernel_rfl) (fun wd _ _ => ?_)
  refine' takeH (i := 0) (v := _) rfl (by kernel_rfl) (by kernel_rfl) (by kernel_rfl) (fun _ _ _ h => h) (yields_of (by rfl) (fun w' _ => ?_)) inferInstance ?_
  rotate_left
  · (go_simp; try with_reducible rfl)
  try simp only [Act.put, sA]; try simp only [sB, sC]
  refine' takeH (i := 1) (v := _) rfl (by kernel_rfl) (by kernel_rfl) (by kernel_rfl) (fun _ _ _ h => h) (yields_of (by rfl) (fun w' _ => ?_)) inferInstance ?_
  rotate_left
  · ((with_reducible apply (ev_loadcellN (k := 0))); (exact rfl); infer_instance; infer_instance; (exact tgc_0 _))
  try simp only [Act.put, sA]; try simp only [sB, sC]
  refine' takeH (i := 2) (v := _) rfl (by kernel_rfl) (by kernel_rfl) (by kernel_rfl) (fun _ _ _ h => h) (yields_of (by rfl) (fun w' _ => ?_)) inferInstance ?_
  rotate_left
  · (go_simp; try with_reducible rfl)
  try simp only [Act.put, sA]; try simp only [sB, sC]
  refine' takeH (i := 3) (v := _) rfl (by kernel_rfl) (by kernel_rfl) (by kernel_rfl) (fun _ _ _ h => h) (yields_of (by rfl) (fun w' _ => ?_)) inferInstance ?_
  rotate_left
  · ((with_reducible apply (ev_loadcellN (k := 0))); (exact rfl); infer_instance; infer_instance; (exact tgc_0 _))
  try simp only [Act.put, sA]; try simp only [sB, sC]
  refine' takeH (i := 5) (v := _) rfl (by kernel_rfl) (by kernel_rfl) (by kernel_rfl) (fun _ _ _ h => h) (yields_of (by rfl) (fun w' _ => ?_)) inferInstance ?_
  rotate_left
  · (go_simp; try with_reducible rfl)
  try simp only [Act.put, sA]; try simp only [sB, sC]
  refine' takeH (i := 6) (v := _) rfl (by kernel_rfl) (by kernel_rfl) (by kernel_rfl) (fun _ _ _ h => h) (yields_of (by rfl) (fun w' _ => ?_)) inferInstance ?_
  rotate_left
  · ((with_reducible apply (ev_loadcellN (k := 36))); (exact rfl); infer_instance; infer_instance; (exact tgc_36 _))
  try simp only [Act.put, sA]; try simp only [sB, sC]
  refine' takeH (i := 7) (v := _) rfl (by kernel_rfl) (by kernel_rfl) (by kernel_rfl) (fun _ _ _ h => h) (yields_of (by rfl) (fun w' _ => ?_)) inferInstance ?_
  rotate_left
  · (go_simp; try with_reducible rfl)
  try simp only [Act.put, sA]; try simp only [sB, sC]
  refine' takeH (i := 8) (v := _) rfl (by kernel_rfl) (by kernel_rfl) (by kernel_rfl) (fun _ _ _ h => h) (yields_of (by rfl) (fun w' _ => ?_)) inferInstance ?_
  rotate_left
  · ((with_reducible apply (ev_loadcellN (k := 36))); (exact rfl); infer_instance; infer_instance; (exact tgc_36 _))
  try simp only [Act.put, sA]; try simp only [sB, sC]
  refine goH (i := 4) (by kernel_rfl) rfl (fun K_ hK_ => ?_)
  go_simp
  refine (compareE_calls a.l b.l _).mono ?_
  rintro e w5 ⟨r1, rfl, hr1, rfl⟩
  have HR1 := Lib.hid hr1
  clear hr1
  refine hK_.out _ _ inferInstance (fun _ => ?_)
  clear hK_ K_
  try simp only [Act.put, sA]; try simp only [sB, sC]
  refine goH (i := 9) (by kernel_rfl) rfl (fun K_ hK_ => ?_)
  go_simp
  refine (compareE_calls a.ecu b.ecu _).mono ?_
  rintro e w6 ⟨r2, rfl, hr2, rfl⟩
  have HR2 := Lib.hid hr2
  clear hr2
  refine hK_.out _ _ inferInstance (fun _ => ?_)
  clear hK_ K_
  try simp only [Act.put, sA]; try simp only [sB, sC]
  refine goH (i := 10) (by kernel_rfl) rfl (fun K_ hK_ => ?_)
  rw [if_pos (by kernel_rfl)]
  refine wpr_of_list ?_
  (first | ((with_reducible apply (stop_dst (dst := some 15))); (try simp only [Act.put, sA, sB, sC]); ((with_reducible apply (wpl_bslice (dst := some 15))); (exact run_int2 _ _ _); intro zs wb _ _ _)))
  refine wpList_nil ?_
  unfold onlyN
  refine hK_.out _ _ inferInstance (fun _ => ?_)
  clear hK_ K_
  try simp only [Act.put, sA]; try simp only [sB, sC]
  refine goH (i := 11) (by kernel_rfl) rfl (fun K_ hK_ => ?_)
  go_simp
  refine (cmpOr_calls r1 r2).mono ?_
  obtain ⟨R0, hR0⟩ : ∃ R, R = (if r1 = 0 then r2 else r1) := ⟨_, rfl⟩
  rw [← hR0]
  have HR0 := Lib.hid hR0
  clear hR0
  rintro e w7 ⟨rfl, rfl⟩
  refine hK_.out _ _ inferInstance (fun _ => ?_)
  clear hK_ K_
  try simp only [Act.put, sA]; try simp only [sB, sC]
  refine' takeH (i := 12) (v := _) rfl (by kernel_rfl) (by kernel_rfl) (by kernel_rfl) (fun _ _ _ h => h) (yields_of (by rfl) (fun w' _ => ?_)) inferInstance ?_
  rotate_left
  · (go_simp; try with_reducible rfl)
  try simp only [Act.put, sA]; try simp only [sB, sC]
  refine wpAnyH_done (by kernel_rfl) ?_ _
  go_wp2_with fail
  go_ret
  refine ⟨_, rfl, ?_, stepN⟩
  rw [tgLt, HR0.out]
  by_cases h0 : r1 = 0
  · rw [if_pos h0, HR2.out.1]
    have h1 := HR1.out.2.1 h0
    rw [h1, bytesLess_irr]
    simp
  · rw [if_neg h0, HR1.out.1]
    have h1 : a.l ≠ b.l := fun h => h0 (HR1.out.2.2 h)
    simp [h1]
set_option maxRecDepth 100000 in
set_option maxHeartbeats 1600000 in
theorem notT_calls (k : TargetR) {w : World} {zi : Nat} {t : TypeId} [hz : HB w zi t #[.func (.func 125) #[] #[]]] :
    Calls Tryz.prog 150 #[.agg (RowC.enc k).toArray, .pointer (some ⟨zi, 0, none⟩)] w fun e w' => e = .returned (.bool (!tgOk k)) ∧ Step nowhere w w' := by
  have hsz := enc_sz k (n := RowC.size TargetR) rfl
  have hon := enc_one k
  go_enter Tryz.func150, Tryz.ntmps150
  go_wp2_with (first | ((with_reducible apply (wpl_box_agg (dst := some 2))); (exact rfl); intro zk wzk _ _ _) | ((with_reducible apply wpl_loadrow); (exact rfl); infer_instance; infer_instance; (first | (with_reducible assumption) | (with_reducible exact H32.size _) | (with_reducible exact enc_sz _ rfl) | kernel_rfl)) | ((with_reducible apply wpl_loadcellN); (exact rfl); infer_instance; (exact rfl)))
  refine (isTarget_calls k _).mono ?_
  rintro e w5 ⟨rfl, _⟩
  go_wp2_with fail
  go_ret
  exact ⟨rfl, stepN⟩
set_option maxRecDepth 100000 in
set_option maxHeartbeats 1600000 in
theorem idxT_calls {A : Option Addr} {n c zi : Nat} {t : TypeId} {K : List TargetR} {w : World} [hr : HR w A (cellsOf K)] [hz : HB w zi t #[.func (.func 125) #[] #[]]] (hl : K.length = n) (hmax : n ≤ 9223372036854775807) :
    Calls Tryz.prog 167 #[.slice A n c, .func (.func 150) #[] #[.pointer (some ⟨zi, 0, none⟩)]] w fun e w' => ∃ r : Int, e = .returned (.int .i64 r) ∧ (0 ≤ r ↔ K.any (fun k => !tgOk k) = true) ∧ Step nowhere w w' := by
  have HL := Lib.hid hl
  obtain ⟨R, hR⟩ : ∃ R, R = K.any (fun k => !tgOk k) := ⟨_, rfl⟩
  rw [← hR]
  have HRR := Lib.hid hR
  clear hR
  go_enter Tryz.func167, Tryz.ntmps167
  go_wp2_with fail
  go_loopw [8] (fun kv wr => ∃ k : Nat, k ≤ n ∧ kv = .int .i64 (k : Int) ∧ Hid ((K.take k).any (fun k => !tgOk k) = false) ∧ Step nowhere w wr) (fun kv _ => n - (intOf kv).toNat)
  case atStart => exact ⟨0, Nat.zero_le _, rfl, Lib.hid rfl, stepN⟩
  case round =>
    obtain ⟨k, hk, rfl, HJ, _⟩ := hrel
    by_cases hlt : k < n
    · have hltI : (k : Int) < n := by omega
      have hkl : k < K.length := by omega
      have hmem : gt K k ∈ K := gt_mem K k hkl
      have hts : (K.take (k + 1)).any (fun k => !tgOk k) = ((K.take k).any (fun k => !tgOk k) || !tgOk (gt K k)) := by
        rw [← List.take_append_getElem hkl, List.any_append]
        simp [gt, List.getD_eq_getElem?_getD, hkl]
      obtain ⟨V, hV⟩ : ∃ V, V = tgOk (gt K k) := ⟨_, rfl⟩
      rw [HJ.out, Bool.false_or, ← hV] at hts
      have HV := Lib.hid hV
      have HTS := Lib.hid hts
      have HAL : Hid (V = false → R = true) := Lib.hid (fun h => by rw [HRR.out]; exact List.any_eq_true.2 ⟨_, hmem, by rw [← hV, h]; rfl⟩)
      clear hmem hts hV
      go_wp2_with (first | ((with_reducible apply (wpl_indexE (α := TargetR) (t := 79))); (exact rfl); (exact rfl); infer_instance; infer_instance; (first | (with_reducible assumption) | omega | (focus (simp; done)) | (focus (simp; omega; done)) | decide); (exact rfl); (decide); (first | (with_reducible assumption) | omega | (focus (simp; done)) | (focus (simp; omega; done)) | decide)) | ((with_reducible apply (wpl_loadE (α := TargetR) (t := 76))); infer_instance; (exact rfl); infer_instance; (exact rfl); (decide); (first | (with_reducible assumption) | omega | (focus (simp; done)) | (focus (simp; omega; done)) | decide)))
      refine (notT_calls (gt K k)).mono ?_
      rw [← HV.out]
      rintro e w1 ⟨rfl, _⟩
      cases V with
      | false =>
        have HAR : Hid (R = true) := Lib.hid (HAL.out rfl)
        clear HAL
        go_wp2_with fail
        go_ret
        exact ⟨_, rfl, ⟨fun _ => HAR.out, fun _ => by omega⟩, stepN⟩
      | true =>
        go_wp2_with fail
        exact ⟨⟨k + 1, by omega, by go_num, HTS, stepN⟩, by simp [intOf]; omega⟩
    · have hltI : ¬ (k : Int) < n := by omega
      have HF : Hid (R = false) := Lib.hid (by
        have h1 := HJ.out
        rw [HRR.out]
        rwa [List.take_of_length_le (by omega)] at h1)
      go_wp2_with fail
      go_ret
      refine ⟨_, rfl, ⟨fun h => by simp at h, fun h => ?_⟩, stepN⟩
      rw [HF.out] at h
      cases h
set_option maxRecDepth 100000 in
set_option maxHeartbeats 1600000 in
theorem contT_calls {A : Option Addr} {n c zi : Nat} {t : TypeId} {K : List TargetR} {w : World} [hr : HR w A (cellsOf K)] [hz : HB w zi t #[.func (.func 125) #[] #[]]] (hl : K.length = n) (hmax : n ≤ 9223372036854775807) :
    Calls Tryz.prog 149 #[.slice A n c, .func (.func 150) #[] #[.pointer (some ⟨zi, 0, none⟩)]] w fun e w' => e = .returned (.bool (K.any (fun k => !tgOk k))) ∧ Step nowhere w w' := by
  go_enter Tryz.func149, Tryz.ntmps149
  go_wp2_with fail
  refine (idxT_calls (K := K) hl hmax).mono ?_
  rintro e w1 ⟨r, rfl, hr, _⟩
  have hd : decide (0 ≤ r) = K.any (fun k => !tgOk k) := by rw [Bool.eq_iff_iff, decide_eq_true_eq]; exact hr
  have HD := Lib.hid hd
  clear hd hr
  go_wp2_with fail
  go_ret
  refine ⟨?_, stepN⟩
  rw [← HD.out]
  rfl
set_option maxRecDepth 100000 in
set_option maxHeartbeats 1600000 in
theorem allT_calls {A : Option Addr} {n c : Nat} {K : List TargetR} {w : World} [hr : HR w A (cellsOf K)] (hl : K.length = n) (hmax : n ≤ 9223372036854775807) :
    Calls Tryz.prog 124 #[.slice A n c, .func (.func 125) #[] #[]] w fun e w' => e = .returned (.bool (K.all tgOk)) ∧ Step nowhere w w' := by
  have hd : (!K.any (fun k => !tgOk k)) = K.all tgOk := by simp [List.all_eq_not_any_not]
  have HD := Lib.hid hd
  clear hd
  go_enter Tryz.func124, Tryz.ntmps124
  go_wp2_with (first | ((with_reducible apply (wpl_box (dst := some 3) (cs := #[.func (.func 125) #[] #[]]))); (exact rfl); (exact rfl); intro bl wbl _ _ _))
  refine (contT_calls (K := K) hl hmax).mono ?_
  rintro e w5 ⟨rfl, _⟩
  go_wp2_with fail
  go_ret
  refine ⟨?_, stepN⟩
  rw [← HD.out]
  rfl
set_option maxRecDepth 100000 in
set_option maxHeartbeats 3200000 in
theorem riseT_calls {A : Option Addr} {n c : Nat} {P : List TargetR} {w : World} [hr : HR w A (cellsOf P)] (hl : P.length = n) (hmax : n ≤ 9223372036854775807) :
    Calls Tryz.prog 126 #[.slice A n c, .func (.func 127) #[] #[]] w fun e w' => e = .returned (.bool (riseT P P.length)) ∧ Step nowhere w w' := by
  obtain ⟨R, hR⟩ : ∃ R, R = riseT P P.length := ⟨_, rfl⟩
  have HR0 := Lib.hid hR
  rw [← hR]
  clear hR
  go_enter Tryz.func126, Tryz.ntmps126
  go_wp2_with fail
  go_loopw [5] (fun iv wr => ∃ k : Nat, 1 ≤ k ∧ k ≤ max n 1 ∧ iv = .int .i64 (k : Int) ∧ Hid (riseT P k = true) ∧ Step nowhere w wr) (fun iv _ => n - (intOf iv).toNat)
  case atStart => exact ⟨1, Nat.le_refl _, Nat.le_max_right _ _, rfl, Lib.hid rfl, stepN⟩
  case round =>
    obtain ⟨k, h1, hk, rfl, HJ, st⟩ := hrel
    have nr : Nw w wr := ⟨st.chg⟩
    have hrw : HR wr A (cellsOf P) := inferInstance
    by_cases hlt : k < n
    · have hltI : (k : Int) < n := by omega
      have hkl : k < P.length := by omega
      have FS1 := Lib.hid (show IntKind.i64.wrap ((k : Int) - 1) = ((k - 1 : Nat) : Int) by rw [IntKind.wrap_i64]; omega)
      have hkp : k - 1 < P.length := by omega
      have hts : riseT P (k + 1) = tgLt (gt P (k - 1)) (gt P k) := by rw [riseT, HJ.out, Bool.true_and, decide_eq_false (by omega), Bool.false_or]
      obtain ⟨V, hV⟩ : ∃ V, V = tgLt (gt P (k - 1)) (gt P k) := ⟨_, rfl⟩
      rw [← hV] at hts
      have HV := Lib.hid hV
      have HTS := Lib.hid hts
      have HNO : Hid (V = false → R = false) := Lib.hid (fun h => by rw [HR0.out]; exact riseT_no P (k + 1) (by rw [hts, h]) _ (by omega))
      clear hts hV
      go_wp2_with fail
      refine wp_region_N (nowhere) (by kernel_rfl) (fun wd _ _ => ?_)
      refine' takeH (i := 0) (v := _) rfl (by kernel_rfl) (by kernel_rfl) (by kernel_rfl) (fun _ _ _ h => h) (yields_of (by rfl) (fun w' _ => ?_)) inferInstance ?_
      rotate_left
      · (go_simp; try with_reducible rfl)
      try simp only [Act.put, sA]; try simp only [sB, sC]
      refine' takeH (i := 1) (v := _) rfl (by kernel_rfl) (by kernel_rfl) (by kernel_rfl) (fun _ _ _ h => h) (yields_of (by rfl) (fun w' _ => ?_)) inferInstance ?_
      rotate_left
      · (go_simp; try with_reducible rfl)
      try simp only [Act.put, sA]; try simp only [sB, sC]
      refine' takeH (i := 2) (v := _) rfl (by kernel_rfl) (by kernel_rfl) (by kernel_rfl) (fun _ _ _ h => h) (yields_of (by rfl) (fun w' _ => ?_)) inferInstance ?_
      rotate_left
      · (go_simp; try with_reducible rfl)
      try simp only [Act.put, sA]; try simp only [sB, sC]
      refine' takeH (i := 3) (v := _) rfl (by kernel_rfl) (by kernel_rfl) (by kernel_rfl) (fun _ _ _ h => h) (yields_of (by rfl) (fun w' _ => ?_)) inferInstance ?_
      rotate_left
      · (go_simp; try with_reducible rfl)
      try simp only [Act.put, sA]; try simp only [sB, sC]
      try simp only [FS1.out]
      refine' takeH (i := 4) (v := _) rfl (by kernel_rfl) (by kernel_rfl) (by kernel_rfl) (fun _ _ _ h => h) (yields_of (by rfl) (fun w' _ => ?_)) inferInstance ?_
      rotate_left
      · ((with_reducible apply (ev_indexE (α := TargetR) (t := 79))); (exact rfl); (exact rfl); infer_instance; infer_instance; (first | (with_reducible assumption) | omega | (focus (simp; done)) | (focus (simp; omega; done)) | decide); (exact rfl); (decide); (first | (with_reducible assumption) | omega | (focus (simp; done)) | (focus (simp; omega; done)) | decide))
      try simp only [Act.put, sA]; try simp only [sB, sC]
      refine' takeH (i := 5) (v := _) rfl (by kernel_rfl) (by kernel_rfl) (by kernel_rfl) (fun _ _ _ h => h) (yields_of (by rfl) (fun w' _ => ?_)) inferInstance ?_
      rotate_left
      · ((with_reducible apply (ev_loadE (α := TargetR) (t := 76))); infer_instance; (exact rfl); infer_instance; (exact rfl); (decide); (first | (with_reducible assumption) | omega | (focus (simp; done)) | (focus (simp; omega; done)) | decide))
      try simp only [Act.put, sA]; try simp only [sB, sC]
      refine' takeH (i := 6) (v := _) rfl (by kernel_rfl) (by kernel_rfl) (by kernel_rfl) (fun _ _ _ h => h) (yields_of (by rfl) (fun w' _ => ?_)) inferInstance ?_
      rotate_left
      · (go_simp; try with_reducible rfl)
      try simp only [Act.put, sA]; try simp only [sB, sC]
      refine' takeH (i := 7) (v := _) rfl (by kernel_rfl) (by kernel_rfl) (by kernel_rfl) (fun _ _ _ h => h) (yields_of (by rfl) (fun w' _ => ?_)) inferInstance ?_
      rotate_left
      · (go_simp; try with_reducible rfl)
      try simp only [Act.put, sA]; try simp only [sB, sC]
      refine' takeH (i := 8) (v := _) rfl (by kernel_rfl) (by kernel_rfl) (by kernel_rfl) (fun _ _ _ h => h) (yields_of (by rfl) (fun w' _ => ?_)) inferInstance ?_
      rotate_left
      · ((with_reducible apply (ev_indexE (α := TargetR) (t := 79))); (exact rfl); (exact rfl); infer_instance; infer_instance; (first | (with_reducible assumption) | omega | (focus (simp; done)) | (focus (simp; omega; done)) | decide); (exact rfl); (decide); (first | (with_reducible assumption) | omega | (focus (simp; done)) | (focus (simp; omega; done)) | decide))
      try simp only [Act.put, sA]; try simp only [sB, sC]
      refine' takeH (i := 9) (v := _) rfl (by kernel_rfl) (by kernel_rfl) (by kernel_rfl) (fun _ _ _ h => h) (yields_of (by rfl) (fun w' _ => ?_)) inferInstance ?_
      rotate_left
      · ((with_reducible apply (ev_loadE (α := TargetR) (t := 76))); infer_instance; (exact rfl); infer_instance; (exact rfl); (decide); (first | (with_reducible assumption) | omega | (focus (simp; done)) | (focus (simp; omega; done)) | decide))
      try simp only [Act.put, sA]; try simp only [sB, sC]
      refine goH (i := 10) (by kernel_rfl) rfl (fun K_ hK_ => ?_)
      go_simp
      refine (compareTargets_calls (gt P (k - 1)) (gt P k) _).mono ?_
      rw [← HV.out]
      rintro e w5 ⟨r, rfl, hrr, _⟩
      refine hK_.out _ _ inferInstance (fun _ => ?_)
      clear hK_ K_
      try simp only [Act.put, sA]; try simp only [sB, sC]
      refine' takeH (i := 11) (v := _) rfl (by kernel_rfl) (by kernel_rfl) (by kernel_rfl) (fun _ _ _ h => h) (yields_of (by rfl) (fun w' _ => ?_)) inferInstance ?_
      rotate_left
      · (go_simp; try with_reducible rfl)
      try simp only [Act.put, sA]; try simp only [sB, sC]
      try simp only [FS1.out]
      refine wpAnyH_done (by kernel_rfl) ?_ _
      cases V
      case false =>
        have hr0 : 0 ≤ r := by
          by_cases h : r < 0
          · exact absurd (hrr.1 h) (by decide)
          · omega
        have HF : Hid (R = false) := Lib.hid (HNO.out rfl)
        clear HNO hrr
        go_wp2_with fail
        go_ret
        rw [HF.out]
        exact ⟨rfl, stepN⟩
      case true =>
        have hr0 : ¬ 0 ≤ r := by
          have := hrr.2 rfl
          omega
        clear HNO hrr
        go_wp2_with fail
        exact ⟨⟨k + 1, by omega, by omega, by go_num, HTS, stepN⟩, by simp [intOf]; omega⟩
    · have hltI : ¬ (k : Int) < n := by omega
      have HF : Hid (R = true) := Lib.hid (by
        rw [HR0.out, hl]
        rcases Nat.eq_zero_or_pos n with h0 | h0
        · rw [h0]; rfl
        · have : k = n := by omega
          rw [← this]; exact HJ.out)
      go_wp2_with fail
      go_ret
      rw [HF.out]
      exact ⟨rfl, stepN⟩
end Go.Proofs.YtmnapacibpnodaaGreat
