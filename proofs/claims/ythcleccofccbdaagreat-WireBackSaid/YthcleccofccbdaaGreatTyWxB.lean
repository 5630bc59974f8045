/- WxB -/
import Derived.Test.YthcleccofccbdaaGreatTyWxA
import Derived.Test.YthcleccofccbdaaGreatTyWsB
open Go Go.RowKit
namespace Go.Proofs.YthcleccofccbdaaGreat
theorem HR.ints1 {w : World} {z : Nat} {t : TypeId} {a : Int} (h : HB w z t #[.int .i64 a]) : HR w (some ⟨z, 0, none⟩) (i64l [a]) := ⟨h.rdL⟩
theorem HR.ints2 {w : World} {z : Nat} {t : TypeId} {a b : Int} (h : HB w z t #[.int .i64 a, .int .i64 b]) : HR w (some ⟨z, 0, none⟩) (i64l [a, b]) := ⟨h.rdL⟩
theorem allNum1 (a : Int) : allNum [a] = numB a := by simp [allNum]
theorem allNum2 (a b : Int) : allNum [a, b] = (numB a && numB b) := by simp [allNum]
set_option maxRecDepth 100000 in
set_option maxHeartbeats 800000 in
theorem rIsTime_calls (v e0 s : Int) (h : H32) (w : World) :
    Calls Tryz.prog 19 #[.agg (timL v e0 s h).toArray] w fun e w' => e = .returned (.bool (timB v e0 s)) ∧ Step nowhere w w' := by
  have hlen := timL_len v e0 s h
  have kb1 := run_int1 e0
  unfold timB
  cases h1 : verB v
  case false =>
    rw [show (false && numB e0 && verB s) = false by simp]
    go_enter Tryz.func19, Tryz.ntmps19
    go_wp2_with (first | ((with_reducible apply (wpl_box_agg (dst := some 1))); (exact rfl); intro zt wzt _ _ _) | ((with_reducible apply wpl_loadcellN); (exact rfl); infer_instance; (exact rfl)))
    refine (rVersion_calls v _).mono ?_
    rw [h1]
    rintro e w5 ⟨rfl, _⟩
    go_wp2_with (first | go_skip)
    go_ret
    exact ⟨rfl, stepN⟩
  case true =>
    cases h2 : numB e0
    case false =>
      rw [show (true && false && verB s) = false by simp]
      go_enter Tryz.func19, Tryz.ntmps19
      go_wp2_with (first | ((with_reducible apply (wpl_box_agg (dst := some 1))); (exact rfl); intro zt wzt _ _ _) | ((with_reducible apply wpl_loadcellN); (exact rfl); infer_instance; (exact rfl)))
      refine (rVersion_calls v _).mono ?_
      rw [h1]
      rintro e w5 ⟨rfl, _⟩
      go_wp2_with (first | ((with_reducible apply (wpl_guard (op := .load _ _))); (exact rfl)) | ((with_reducible apply (wpl_guard (op := .buildSlice _ _ _))); (exact rfl)) | ((with_reducible apply (stop_dst (dst := some 9))); (try simp only [Act.put, sA, sB, sC]); ((with_reducible apply (wpl_bslice (dst := some 9))); (exact kb1 _); intro zb wb _ _ _)) | ((with_reducible apply (wpl_guard (op := .fieldAddr _ _ _))); (exact rfl)) | ((with_reducible apply wpl_loadcellN); (exact rfl); infer_instance; (exact rfl)))
      have hr2 : HR wb (some ⟨zb, 0, none⟩) (i64l [e0]) := HR.ints1 (inferInstance : HB wb zb 3 #[.int .i64 e0])
      refine (rNum_calls (l := [e0]) (n := 1) (c := 1) rfl (by decide)).mono ?_
      rw [allNum1, h2]
      rintro e w6 ⟨rfl, _⟩
      go_wp2_with (first | go_skip)
      go_ret
      exact ⟨rfl, stepN⟩
    case true =>
      rw [show (true && true && verB s) = verB s by simp]
      go_enter Tryz.func19, Tryz.ntmps19
      go_wp2_with (first | ((with_reducible apply (wpl_box_agg (dst := some 1))); (exact rfl); intro zt wzt _ _ _) | ((with_reducible apply wpl_loadcellN); (exact rfl); infer_instance; (exact rfl)))
      refine (rVersion_calls v _).mono ?_
      rw [h1]
      rintro e w5 ⟨rfl, _⟩
      go_wp2_with (first | ((with_reducible apply (wpl_guard (op := .load _ _))); (exact rfl)) | ((with_reducible apply (wpl_guard (op := .buildSlice _ _ _))); (exact rfl)) | ((with_reducible apply (stop_dst (dst := some 9))); (try simp only [Act.put, sA, sB, sC]); ((with_reducible apply (wpl_bslice (dst := some 9))); (exact kb1 _); intro zb wb _ _ _)) | ((with_reducible apply (wpl_guard (op := .fieldAddr _ _ _))); (exact rfl)) | ((with_reducible apply wpl_loadcellN); (exact rfl); infer_instance; (exact rfl)))
      have hr2 : HR wb (some ⟨zb, 0, none⟩) (i64l [e0]) := HR.ints1 (inferInstance : HB wb zb 3 #[.int .i64 e0])
      refine (rNum_calls (l := [e0]) (n := 1) (c := 1) rfl (by decide)).mono ?_
      rw [allNum1, h2]
      rintro e w6 ⟨rfl, _⟩
      go_wp2_with (first | ((with_reducible apply (wpl_guard (op := .load _ _))); (exact rfl)) | ((with_reducible apply (wpl_guard (op := .fieldAddr _ _ _))); (exact rfl)) | ((with_reducible apply wpl_loadcellN); (exact rfl); infer_instance; (exact rfl)))
      refine (rVersion_calls s _).mono ?_
      rintro e w7 ⟨rfl, _⟩
      go_wp2_with fail
      go_ret
      exact ⟨rfl, stepN⟩
set_option maxRecDepth 100000 in
set_option maxHeartbeats 1600000 in
theorem rIsReport_calls (u n : ByteArray) (h : H32) (c k : Int) (l m : List UInt8) (hl : u.data.toList = l) (hm : n.data.toList = m) (hu : u.size ≤ 9223372036854775807) (hn : n.size ≤ 9223372036854775807) (w : World) :
    Calls Tryz.prog 26 #[.agg (repL u n h c k).toArray] w fun e w' => e = .returned (.bool (repB l m c k)) ∧ Step nowhere w w' := by
  have hlen := repL_len u n h c k
  have hone := repL_one u n h c k
  have kb1 := run_int2 c k
  have hE : n.toList.isEmpty = m.isEmpty := by rw [toL hm]
  have e4 : repB l m c k = (nameL l && nameE m && (numB c && numB k)) := by rw [repB, Bool.and_assoc]
  rw [e4]
  clear e4
  cases h1 : nameL l
  case false =>
    rw [show (false && nameE m && (numB c && numB k)) = false by simp]
    go_enter Tryz.func26, Tryz.ntmps26
    go_wp2_with (first | ((with_reducible apply (stop_dst (dst := some 4))); (with_reducible apply wpl_loadcellN); (exact rfl); infer_instance; (exact rep_at0 _ _ _ _ _)) | ((with_reducible apply (wpl_box_agg (dst := some 1))); (exact rfl); intro zt wzt _ _ _))
    refine (rName_calls u l hl hu _).mono ?_
    rw [h1]
    rintro e w5 ⟨rfl, _⟩
    go_wp2_with (first | go_skip)
    go_ret
    exact ⟨rfl, stepN⟩
  case true =>
    cases h2 : m.isEmpty
    case true =>
      rw [h2] at hE
      rw [show (true && nameE m && (numB c && numB k)) = (numB c && numB k) by simp [nameE, h2]]
      go_enter Tryz.func26, Tryz.ntmps26
      go_wp2_with (first | ((with_reducible apply (stop_dst (dst := some 4))); (with_reducible apply wpl_loadcellN); (exact rfl); infer_instance; (exact rep_at0 _ _ _ _ _)) | ((with_reducible apply (wpl_box_agg (dst := some 1))); (exact rfl); intro zt wzt _ _ _))
      refine (rName_calls u l hl hu _).mono ?_
      rw [h1]
      rintro e w5 ⟨rfl, _⟩
      go_wp2_with (first | go_skip | ((with_reducible apply (wpl_guard (op := .load _ _))); (exact rfl)) | ((with_reducible apply (wpl_guard (op := .buildSlice _ _ _))); (exact rfl)) | ((with_reducible apply (stop_dst (dst := some 8))); (with_reducible apply wpl_loadcellN); (exact rfl); infer_instance; (exact rep_at1 _ _ _ _ _)) | ((with_reducible apply (stop_dst (dst := some 18))); (with_reducible apply wpl_loadcellN); (exact rfl); infer_instance; (exact rep_at34 _ _ _ _ _)) | ((with_reducible apply (stop_dst (dst := some 20))); (with_reducible apply wpl_loadcellN); (exact rfl); infer_instance; (exact rep_at35 _ _ _ _ _)) | ((with_reducible apply (stop_dst (dst := some 21))); (try simp only [Act.put, sA, sB, sC]); ((with_reducible apply (wpl_bslice (dst := some 21))); (exact kb1 _); intro zb wb _ _ _)) | ((with_reducible apply (wpl_guard (op := .fieldAddr _ _ _))); (exact rfl)))
      have hr2 : HR wb (some ⟨zb, 0, none⟩) (i64l [c, k]) := HR.ints2 (inferInstance : HB wb zb 3 #[.int .i64 c, .int .i64 k])
      refine (rNum_calls (l := [c, k]) (n := 2) (c := 2) rfl (by decide)).mono ?_
      rw [allNum2]
      rintro e w7 ⟨rfl, _⟩
      go_wp2_with fail
      go_ret
      exact ⟨rfl, stepN⟩
    case false =>
      rw [h2] at hE
      cases h3 : nameL m
      case false =>
        rw [show (true && nameE m && (numB c && numB k)) = false by simp [nameE, h2, h3]]
        go_enter Tryz.func26, Tryz.ntmps26
        go_wp2_with (first | ((with_reducible apply (stop_dst (dst := some 4))); (with_reducible apply wpl_loadcellN); (exact rfl); infer_instance; (exact rep_at0 _ _ _ _ _)) | ((with_reducible apply (wpl_box_agg (dst := some 1))); (exact rfl); intro zt wzt _ _ _))
        refine (rName_calls u l hl hu _).mono ?_
        rw [h1]
        rintro e w5 ⟨rfl, _⟩
        go_wp2_with (first | ((with_reducible apply (wpl_guard (op := .load _ _))); (exact rfl)) | ((with_reducible apply (stop_dst (dst := some 8))); (with_reducible apply wpl_loadcellN); (exact rfl); infer_instance; (exact rep_at1 _ _ _ _ _)) | ((with_reducible apply (stop_dst (dst := some 12))); (with_reducible apply wpl_loadcellN); (exact rfl); infer_instance; (exact rep_at1 _ _ _ _ _)) | ((with_reducible apply (wpl_guard (op := .fieldAddr _ _ _))); (exact rfl)))
        refine (rName_calls n m hm hn _).mono ?_
        rw [h3]
        rintro e w6 ⟨rfl, _⟩
        go_wp2_with (first | go_skip)
        go_ret
        exact ⟨rfl, stepN⟩
      case true =>
        rw [show (true && nameE m && (numB c && numB k)) = (numB c && numB k) by simp [nameE, h2, h3]]
        go_enter Tryz.func26, Tryz.ntmps26
        go_wp2_with (first | ((with_reducible apply (stop_dst (dst := some 4))); (with_reducible apply wpl_loadcellN); (exact rfl); infer_instance; (exact rep_at0 _ _ _ _ _)) | ((with_reducible apply (wpl_box_agg (dst := some 1))); (exact rfl); intro zt wzt _ _ _))
        refine (rName_calls u l hl hu _).mono ?_
        rw [h1]
        rintro e w5 ⟨rfl, _⟩
        go_wp2_with (first | ((with_reducible apply (wpl_guard (op := .load _ _))); (exact rfl)) | ((with_reducible apply (stop_dst (dst := some 8))); (with_reducible apply wpl_loadcellN); (exact rfl); infer_instance; (exact rep_at1 _ _ _ _ _)) | ((with_reducible apply (stop_dst (dst := some 12))); (with_reducible apply wpl_loadcellN); (exact rfl); infer_instance; (exact rep_at1 _ _ _ _ _)) | ((with_reducible apply (wpl_guard (op := .fieldAddr _ _ _))); (exact rfl)))
        refine (rName_calls n m hm hn _).mono ?_
        rw [h3]
        rintro e w6 ⟨rfl, _⟩
        go_wp2_with (first | ((with_reducible apply (wpl_guard (op := .load _ _))); (exact rfl)) | ((with_reducible apply (wpl_guard (op := .buildSlice _ _ _))); (exact rfl)) | ((with_reducible apply (stop_dst (dst := some 18))); (with_reducible apply wpl_loadcellN); (exact rfl); infer_instance; (exact rep_at34 _ _ _ _ _)) | ((with_reducible apply (stop_dst (dst := some 20))); (with_reducible apply wpl_loadcellN); (exact rfl); infer_instance; (exact rep_at35 _ _ _ _ _)) | ((with_reducible apply (stop_dst (dst := some 21))); (try simp only [Act.put, sA, sB, sC]); ((with_reducible apply (wpl_bslice (dst := some 21))); (exact kb1 _); intro zb wb _ _ _)) | ((with_reducible apply (wpl_guard (op := .fieldAddr _ _ _))); (exact rfl)))
        have hr2 : HR wb (some ⟨zb, 0, none⟩) (i64l [c, k]) := HR.ints2 (inferInstance : HB wb zb 3 #[.int .i64 c, .int .i64 k])
        refine (rNum_calls (l := [c, k]) (n := 2) (c := 2) rfl (by decide)).mono ?_
        rw [allNum2]
        rintro e w7 ⟨rfl, _⟩
        go_wp2_with fail
        go_ret
        exact ⟨rfl, stepN⟩
end Go.Proofs.YthcleccofccbdaaGreat
