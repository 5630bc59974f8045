/- RsI, RsK -/
import Derived.Test.YteieielodooglaaGreatTnRsH
import Derived.Test.YteieielodooglaaGreatTnPlain
section
open Go Go.RowKit
namespace Go.Proofs.YteieielodooglaaGreat
def hR1 : H32 := ⟨1 :: List.replicate 31 0, by simp⟩
theorem run_hB1r (w : World) : (Instr.build 23 #[(0, .int .u8 1)]).run Tryz.prog w = .ok (.agg (u8s hR1.l)) w := by kernel_rfl
theorem okT : tgsOk mayL (0 + 1) (0 + 1) [] [] = true := by decide +kernel
theorem okS : snapOk (0 + 1) (0 + 1) [⟨mayL, 0 + 1⟩] = true := by decide +kernel
theorem okM : timB (0 + 1) (0 + 1) (0 + 1) = true := by decide +kernel
theorem okTl : (encAll [4] ++ tgsB mayL (0 + 1) (0 + 1) 0 0 [] []).length ≤ 100000 := by decide +kernel
theorem okSl : (snapE (0 + 1) (0 + 1) [⟨mayL, 0 + 1⟩]).length ≤ 100000 := by decide +kernel
theorem okMl (h : H32) : (encAll [2] ++ (encAll [(0 : Int) + 1, 0 + 1, 0 + 1] ++ h.l)).length ≤ 100000 := by
  rw [List.length_append, List.length_append, h.len]
  decide +kernel
set_option maxRecDepth 100000 in
set_option maxHeartbeats 3200000 in
theorem rpKnown_calls (w : World) : Calls Tryz.prog 14 #[] w fun e w' => e = .returned (.bool true) ∧ Step nowhere w w' := by
  go_enter Tryz.func14, Tryz.ntmps14
  go_wp2_with (first | go_skip | ((with_reducible apply wpl_build); (exact run_hB1r _)))
  refine (repoNew_calls hR1 _).mono ?_
  rintro e w1 ⟨zr, z0, z1, rfl, st1, hn, hr, hk0, hk1⟩
  have ab0 : Above w (only z0) := ⟨fun x h => by have h' : x = z0 := h; have := hn.out.2.1; omega⟩
  have ab1 : Above w (two z1 zr) := ⟨fun x h => by have := hn.out.1; have := hn.out.2.2.1; rcases h with h | h <;> omega⟩
  have o0r : OffB (only z0) zr := ⟨fun e => hn.out.2.2.2.1 (show zr = z0 from e).symm⟩
  have o01 : OffB (only z0) z1 := ⟨fun e => hn.out.2.2.2.2.2 (show z1 = z0 from e).symm⟩
  go_wp2_with (first | go_skip)
  refine (rootR_calls (zk := z0) (zr := zr) (seed := kSeed hR1 0) (used := 0) (w := w1) hn.out.2.2.2.1).mono ?_
  rintro e w2 ⟨K, rfl, hK, st2, hk02⟩
  have hb2 : HB w2 zr 73 (rpL hR1 (.pointer (some ⟨z0, 0, none⟩)) (.pointer (some ⟨z1, 0, none⟩)) (pubS (kSeed hR1 1)) 1 0 rpTl).toArray := inferInstance
  have hk2 : KeyAt w2 z1 (kSeed hR1 1) 0 := inferInstance
  have hsK := rtL_len 1 1073741824 K hK
  have hf0 : ∀ w, (Instr.field 55 (.agg (rtL 1 1073741824 K).toArray) 0).run Tryz.prog w = .ok (.int .i64 1) w := fun _ => by kernel_rfl
  have hf3 : ∀ a b c d A' n c' w, (Instr.field 34 (.agg #[.slice none 0 0, a, b, c, d, .slice A' n c']) 3).run Tryz.prog w = .ok (.slice A' n c') w := fun _ _ _ _ _ _ _ _ => by kernel_rfl
  go_wp2_with (first | go_skip)
  have hbB : HB w2 zr 73 (rpL hR1 (.pointer (some ⟨z0, 0, none⟩)) (.pointer (some ⟨z1, 0, none⟩)) (pubS (kSeed hR1 1)) 1 0 (.slice none 0 0 :: [.slice none 0 0, .slice none 0 0, .slice none 0 0, .slice none 0 0, .slice none 0 0, .slice none 0 0, .slice none 0 0])).toArray := hb2
  refine (bundle0_calls (w := w2) (evV_nil _) (evV_nil _)).mono ?_
  rintro e w3 ⟨a, b, c, d, A1, c1, rfl, st3⟩
  go_wp2_with (first | go_skip)
  have hb3 : HB w3 zr 73 (rpL hR1 (.pointer (some ⟨z0, 0, none⟩)) (.pointer (some ⟨z1, 0, none⟩)) (pubS (kSeed hR1 1)) 1 0 [.slice none 0 0, .slice none 0 0, .slice none 0 0, .slice none 0 0, .slice none 0 0, .slice none 0 0, .slice none 0 0, .slice none 0 0]).toArray := inferInstance
  have hk3 : KeyAt w3 z1 (kSeed hR1 1) 0 := inferInstance
  have qc := sign0_calls (sd := hR1) (f := pubS (kSeed hR1 1)) (seed := kSeed hR1 1) (zr := zr) (zk := z1) (used := 0) (v := 0) (now := 0) (life := 1) (w := w3) hn.out.2.2.2.2.1 (by omega) (by omega) (Nat.le_refl 0) (by omega) (by omega) (by omega) (by omega) (by omega) okT okS okM okTl okSl okMl
  refine qc.mono ?_
  rintro e w4 ⟨rfl, hS4⟩
  obtain ⟨a2, b2, c2, d2, zE, ev, m1, m2, m3, P1, P2, P3, st4, hk4, hb4, hE, hr4⟩ := hS4
  go_wp2_with (first | go_skip)
  have hb4' : HB w4 zr 73 (rpL hR1 (.pointer (some ⟨z0, 0, none⟩)) (.pointer (some ⟨z1, 0, none⟩)) (pubS (kSeed hR1 1)) 1 (0 + 1) (.slice none 0 0 :: [.slice none 0 0, a2, b2, c2, d2, .slice (some ⟨zE, 0, none⟩) 1 1, .slice none 0 0])).toArray := hb4
  refine (bundle1_calls (w := w4) hE.out.1 hE.out.2.1 hE.out.2.2).mono ?_
  rintro e w5 ⟨a3, b3, c3, d3, A3, n3, rfl, st5⟩
  go_wp2_with (first | go_skip)
  go_ret
  exact ⟨rfl, stepN⟩
end Go.Proofs.YteieielodooglaaGreat
end
section
open Go Go.RowKit
namespace Go.Proofs.YteieielodooglaaGreat
set_option maxRecDepth 100000 in
set_option maxHeartbeats 6400000 in
theorem repoOfNothing_calls (t : TargetR) (w : World) : Calls Tryz.prog 5 #[.agg (RowC.enc t).toArray] w fun e w' => e = .returned (.bool true) ∧ Chg nowhere w w' := by
  have hsz : (RowC.enc t).toArray.size = 37 := tgR_len _
  have hon := enc_one t
  have hf0 : ∀ w, (Instr.field 55 (.agg (rtL 0 0 noK).toArray) 0).run Tryz.prog w = .ok (.int .i64 0) w := fun _ => by kernel_rfl
  have hf3 : ∀ w, (Instr.field 34 (.agg #[.slice none 0 0, .slice none 0 0, .slice none 0 0, .slice none 0 0, .slice none 0 0, .slice none 0 0]) 3).run Tryz.prog w = .ok (.slice none 0 0) w := fun _ => by kernel_rfl
  by_cases c3 : 100 < wrap64 (wrap64 (((strL t.l).size : Int) + ((strL t.hw).size : Int)) + ((strL t.ecu).size : Int))
  · go_enter Tryz.func5, Tryz.ntmps5
    go_wp2_with (first | go_skip | ((with_reducible apply (stop_dst (dst := some 7))); (with_reducible apply (wpl_loadcellN (k := 0))); (exact rfl); infer_instance; (exact tgc_0 _)) | ((with_reducible apply (stop_dst (dst := some 10))); (with_reducible apply (wpl_loadcellN (k := 34))); (exact rfl); infer_instance; (exact tgc_34 _)) | ((with_reducible apply (stop_dst (dst := some 14))); (with_reducible apply (wpl_loadcellN (k := 36))); (exact rfl); infer_instance; (exact tgc_36 _)) | ((with_reducible apply (wpl_box_agg (dst := some 1))); (exact rfl); intro zt wzt _ _ _) | ((with_reducible apply (wpl_box_int (dst := some 1))); (exact rfl); intro zt wzt _ _ _) | ((with_reducible apply (wpl_box_slice (dst := some 1))); (exact rfl); intro zt wzt _ _ _) | ((with_reducible apply (wpl_box_str (dst := some 1))); (exact rfl); intro zt wzt _ _ _) | ((with_reducible apply (wpl_box_bool (dst := some 1))); (exact rfl); intro zt wzt _ _ _) | ((with_reducible apply (wpl_box_ptr (dst := some 1))); (exact rfl); intro zt wzt _ _ _) | ((with_reducible apply wpl_box_agg); (exact rfl); intro z wz _ _ _) | ((with_reducible apply wpl_box_int); (exact rfl); intro z wz _ _ _) | ((with_reducible apply wpl_box_slice); (exact rfl); intro z wz _ _ _) | ((with_reducible apply wpl_box_str); (exact rfl); intro z wz _ _ _) | ((with_reducible apply wpl_box_bool); (exact rfl); intro z wz _ _ _) | ((with_reducible apply wpl_box_ptr); (exact rfl); intro z wz _ _ _) | ((with_reducible apply (wpl_guard (op := .load _ _))); (exact rfl)) | ((with_reducible apply (wpl_guard (op := .fieldAddr _ _ _))); (exact rfl)) | ((with_reducible apply wpl_loadrow); (exact rfl); infer_instance; infer_instance; (first | (with_reducible assumption) | (with_reducible exact H32.size _) | (with_reducible exact enc_sz _ rfl) | kernel_rfl)) | ((with_reducible apply wpl_loadcellN); (exact rfl); infer_instance; (exact rfl)))
    go_ret
    exact ⟨rfl, (stepN (w0 := w)).chg⟩
  · go_enter Tryz.func5, Tryz.ntmps5
    go_wp2_with (first | go_skip | ((with_reducible apply (stop_dst (dst := some 7))); (with_reducible apply (wpl_loadcellN (k := 0))); (exact rfl); infer_instance; (exact tgc_0 _)) | ((with_reducible apply (stop_dst (dst := some 10))); (with_reducible apply (wpl_loadcellN (k := 34))); (exact rfl); infer_instance; (exact tgc_34 _)) | ((with_reducible apply (stop_dst (dst := some 14))); (with_reducible apply (wpl_loadcellN (k := 36))); (exact rfl); infer_instance; (exact tgc_36 _)) | ((with_reducible apply (wpl_box_agg (dst := some 1))); (exact rfl); intro zt wzt _ _ _) | ((with_reducible apply (wpl_box_int (dst := some 1))); (exact rfl); intro zt wzt _ _ _) | ((with_reducible apply (wpl_box_slice (dst := some 1))); (exact rfl); intro zt wzt _ _ _) | ((with_reducible apply (wpl_box_str (dst := some 1))); (exact rfl); intro zt wzt _ _ _) | ((with_reducible apply (wpl_box_bool (dst := some 1))); (exact rfl); intro zt wzt _ _ _) | ((with_reducible apply (wpl_box_ptr (dst := some 1))); (exact rfl); intro zt wzt _ _ _) | ((with_reducible apply wpl_box_agg); (exact rfl); intro z wz _ _ _) | ((with_reducible apply wpl_box_int); (exact rfl); intro z wz _ _ _) | ((with_reducible apply wpl_box_slice); (exact rfl); intro z wz _ _ _) | ((with_reducible apply wpl_box_str); (exact rfl); intro z wz _ _ _) | ((with_reducible apply wpl_box_bool); (exact rfl); intro z wz _ _ _) | ((with_reducible apply wpl_box_ptr); (exact rfl); intro z wz _ _ _) | ((with_reducible apply (wpl_guard (op := .load _ _))); (exact rfl)) | ((with_reducible apply (wpl_guard (op := .fieldAddr _ _ _))); (exact rfl)) | ((with_reducible apply wpl_loadrow); (exact rfl); infer_instance; infer_instance; (first | (with_reducible assumption) | (with_reducible exact H32.size _) | (with_reducible exact enc_sz _ rfl) | kernel_rfl)) | ((with_reducible apply wpl_loadcellN); (exact rfl); infer_instance; (exact rfl)))
    refine (rpUsedNil_calls _).mono ?_
    rintro e w1 ⟨rfl, rfl⟩
    go_wp2_with (first | go_skip | ((with_reducible apply wpl_box_agg); (exact rfl); intro z wz _ _ _) | ((with_reducible apply wpl_box_int); (exact rfl); intro z wz _ _ _) | ((with_reducible apply wpl_box_slice); (exact rfl); intro z wz _ _ _) | ((with_reducible apply wpl_box_str); (exact rfl); intro z wz _ _ _) | ((with_reducible apply wpl_box_bool); (exact rfl); intro z wz _ _ _) | ((with_reducible apply wpl_box_ptr); (exact rfl); intro z wz _ _ _) | ((with_reducible apply (wpl_guard (op := .load _ _))); (exact rfl)) | ((with_reducible apply (wpl_guard (op := .fieldAddr _ _ _))); (exact rfl)) | ((with_reducible apply wpl_loadrow); (exact rfl); infer_instance; infer_instance; (first | (with_reducible assumption) | (with_reducible exact H32.size _) | (with_reducible exact enc_sz _ rfl) | kernel_rfl)) | ((with_reducible apply wpl_loadcellN); (exact rfl); infer_instance; (exact rfl)))
    refine (rpPublishNil_calls t _).mono ?_
    rintro e w2 ⟨rfl, st2⟩
    go_wp2_with (first | go_skip | ((with_reducible apply (stop_dst (dst := some 30))); (with_reducible apply (wpl_loadcellN (k := 0))); (exact rfl); infer_instance; (exact tgc_0 _)) | ((with_reducible apply (stop_dst (dst := some 32))); (with_reducible apply (wpl_loadcellN (k := 36))); (exact rfl); infer_instance; (exact tgc_36 _)) | ((with_reducible apply wpl_box_agg); (exact rfl); intro z wz _ _ _) | ((with_reducible apply wpl_box_int); (exact rfl); intro z wz _ _ _) | ((with_reducible apply wpl_box_slice); (exact rfl); intro z wz _ _ _) | ((with_reducible apply wpl_box_str); (exact rfl); intro z wz _ _ _) | ((with_reducible apply wpl_box_bool); (exact rfl); intro z wz _ _ _) | ((with_reducible apply wpl_box_ptr); (exact rfl); intro z wz _ _ _) | ((with_reducible apply (wpl_guard (op := .load _ _))); (exact rfl)) | ((with_reducible apply (wpl_guard (op := .fieldAddr _ _ _))); (exact rfl)) | ((with_reducible apply wpl_loadrow); (exact rfl); infer_instance; infer_instance; (first | (with_reducible assumption) | (with_reducible exact H32.size _) | (with_reducible exact enc_sz _ rfl) | kernel_rfl)) | ((with_reducible apply wpl_loadcellN); (exact rfl); infer_instance; (exact rfl)))
    refine (rpRemoveNil_calls _ _ _).mono ?_
    rintro e w3 ⟨rfl, rfl⟩
    go_wp2_with (first | go_skip | ((with_reducible apply wpl_box_agg); (exact rfl); intro z wz _ _ _) | ((with_reducible apply wpl_box_int); (exact rfl); intro z wz _ _ _) | ((with_reducible apply wpl_box_slice); (exact rfl); intro z wz _ _ _) | ((with_reducible apply wpl_box_str); (exact rfl); intro z wz _ _ _) | ((with_reducible apply wpl_box_bool); (exact rfl); intro z wz _ _ _) | ((with_reducible apply wpl_box_ptr); (exact rfl); intro z wz _ _ _) | ((with_reducible apply (wpl_guard (op := .load _ _))); (exact rfl)) | ((with_reducible apply (wpl_guard (op := .fieldAddr _ _ _))); (exact rfl)) | ((with_reducible apply wpl_loadrow); (exact rfl); infer_instance; infer_instance; (first | (with_reducible assumption) | (with_reducible exact H32.size _) | (with_reducible exact enc_sz _ rfl) | kernel_rfl)) | ((with_reducible apply wpl_loadcellN); (exact rfl); infer_instance; (exact rfl)))
    refine (rpSignNil_calls _ _ _).mono ?_
    rintro e w4 ⟨rfl, rfl⟩
    go_wp2_with (first | go_skip | ((with_reducible apply wpl_box_agg); (exact rfl); intro z wz _ _ _) | ((with_reducible apply wpl_box_int); (exact rfl); intro z wz _ _ _) | ((with_reducible apply wpl_box_slice); (exact rfl); intro z wz _ _ _) | ((with_reducible apply wpl_box_str); (exact rfl); intro z wz _ _ _) | ((with_reducible apply wpl_box_bool); (exact rfl); intro z wz _ _ _) | ((with_reducible apply wpl_box_ptr); (exact rfl); intro z wz _ _ _) | ((with_reducible apply (wpl_guard (op := .load _ _))); (exact rfl)) | ((with_reducible apply (wpl_guard (op := .fieldAddr _ _ _))); (exact rfl)) | ((with_reducible apply wpl_loadrow); (exact rfl); infer_instance; infer_instance; (first | (with_reducible assumption) | (with_reducible exact H32.size _) | (with_reducible exact enc_sz _ rfl) | kernel_rfl)) | ((with_reducible apply wpl_loadcellN); (exact rfl); infer_instance; (exact rfl)))
    refine (rpRotateNil_calls _).mono ?_
    rintro e w5 ⟨rfl, rfl⟩
    go_wp2_with (first | go_skip | ((with_reducible apply wpl_box_agg); (exact rfl); intro z wz _ _ _) | ((with_reducible apply wpl_box_int); (exact rfl); intro z wz _ _ _) | ((with_reducible apply wpl_box_slice); (exact rfl); intro z wz _ _ _) | ((with_reducible apply wpl_box_str); (exact rfl); intro z wz _ _ _) | ((with_reducible apply wpl_box_bool); (exact rfl); intro z wz _ _ _) | ((with_reducible apply wpl_box_ptr); (exact rfl); intro z wz _ _ _) | ((with_reducible apply (wpl_guard (op := .load _ _))); (exact rfl)) | ((with_reducible apply (wpl_guard (op := .fieldAddr _ _ _))); (exact rfl)) | ((with_reducible apply wpl_loadrow); (exact rfl); infer_instance; infer_instance; (first | (with_reducible assumption) | (with_reducible exact H32.size _) | (with_reducible exact enc_sz _ rfl) | kernel_rfl)) | ((with_reducible apply wpl_loadcellN); (exact rfl); infer_instance; (exact rfl)))
    refine (rpTargetsNil_calls _).mono ?_
    rintro e w6 ⟨rfl, rfl⟩
    go_wp2_with (first | go_skip | ((with_reducible apply wpl_box_agg); (exact rfl); intro z wz _ _ _) | ((with_reducible apply wpl_box_int); (exact rfl); intro z wz _ _ _) | ((with_reducible apply wpl_box_slice); (exact rfl); intro z wz _ _ _) | ((with_reducible apply wpl_box_str); (exact rfl); intro z wz _ _ _) | ((with_reducible apply wpl_box_bool); (exact rfl); intro z wz _ _ _) | ((with_reducible apply wpl_box_ptr); (exact rfl); intro z wz _ _ _) | ((with_reducible apply (wpl_guard (op := .load _ _))); (exact rfl)) | ((with_reducible apply (wpl_guard (op := .fieldAddr _ _ _))); (exact rfl)) | ((with_reducible apply wpl_loadrow); (exact rfl); infer_instance; infer_instance; (first | (with_reducible assumption) | (with_reducible exact H32.size _) | (with_reducible exact enc_sz _ rfl) | kernel_rfl)) | ((with_reducible apply wpl_loadcellN); (exact rfl); infer_instance; (exact rfl)))
    refine (rpLedgerNil_calls _).mono ?_
    rintro e w7 ⟨rfl, rfl⟩
    go_wp2_with (first | go_skip | ((with_reducible apply wpl_box_agg); (exact rfl); intro z wz _ _ _) | ((with_reducible apply wpl_box_int); (exact rfl); intro z wz _ _ _) | ((with_reducible apply wpl_box_slice); (exact rfl); intro z wz _ _ _) | ((with_reducible apply wpl_box_str); (exact rfl); intro z wz _ _ _) | ((with_reducible apply wpl_box_bool); (exact rfl); intro z wz _ _ _) | ((with_reducible apply wpl_box_ptr); (exact rfl); intro z wz _ _ _) | ((with_reducible apply (wpl_guard (op := .load _ _))); (exact rfl)) | ((with_reducible apply (wpl_guard (op := .fieldAddr _ _ _))); (exact rfl)) | ((with_reducible apply wpl_loadrow); (exact rfl); infer_instance; infer_instance; (first | (with_reducible assumption) | (with_reducible exact H32.size _) | (with_reducible exact enc_sz _ rfl) | kernel_rfl)) | ((with_reducible apply wpl_loadcellN); (exact rfl); infer_instance; (exact rfl)))
    refine (rpBundleNil_calls _).mono ?_
    rintro e w8 ⟨rfl, st8⟩
    go_wp2_with (first | go_skip | ((with_reducible apply wpl_box_agg); (exact rfl); intro z wz _ _ _) | ((with_reducible apply wpl_box_int); (exact rfl); intro z wz _ _ _) | ((with_reducible apply wpl_box_slice); (exact rfl); intro z wz _ _ _) | ((with_reducible apply wpl_box_str); (exact rfl); intro z wz _ _ _) | ((with_reducible apply wpl_box_bool); (exact rfl); intro z wz _ _ _) | ((with_reducible apply wpl_box_ptr); (exact rfl); intro z wz _ _ _) | ((with_reducible apply (wpl_guard (op := .load _ _))); (exact rfl)) | ((with_reducible apply (wpl_guard (op := .fieldAddr _ _ _))); (exact rfl)) | ((with_reducible apply wpl_loadrow); (exact rfl); infer_instance; infer_instance; (first | (with_reducible assumption) | (with_reducible exact H32.size _) | (with_reducible exact enc_sz _ rfl) | kernel_rfl)) | ((with_reducible apply wpl_loadcellN); (exact rfl); infer_instance; (exact rfl)))
    refine (rpRootNil_calls _).mono ?_
    rintro e w9 ⟨rfl, st9⟩
    go_wp2_with (first | go_skip | ((with_reducible apply wpl_box_agg); (exact rfl); intro z wz _ _ _) | ((with_reducible apply wpl_box_int); (exact rfl); intro z wz _ _ _) | ((with_reducible apply wpl_box_slice); (exact rfl); intro z wz _ _ _) | ((with_reducible apply wpl_box_str); (exact rfl); intro z wz _ _ _) | ((with_reducible apply wpl_box_bool); (exact rfl); intro z wz _ _ _) | ((with_reducible apply wpl_box_ptr); (exact rfl); intro z wz _ _ _) | ((with_reducible apply (wpl_guard (op := .load _ _))); (exact rfl)) | ((with_reducible apply (wpl_guard (op := .fieldAddr _ _ _))); (exact rfl)) | ((with_reducible apply wpl_loadrow); (exact rfl); infer_instance; infer_instance; (first | (with_reducible assumption) | (with_reducible exact H32.size _) | (with_reducible exact enc_sz _ rfl) | kernel_rfl)) | ((with_reducible apply wpl_loadcellN); (exact rfl); infer_instance; (exact rfl)))
    refine (rpKnown_calls _).mono ?_
    rintro e w10 ⟨rfl, st10⟩
    go_wp2_with (first | go_skip | ((with_reducible apply wpl_box_agg); (exact rfl); intro z wz _ _ _) | ((with_reducible apply wpl_box_int); (exact rfl); intro z wz _ _ _) | ((with_reducible apply wpl_box_slice); (exact rfl); intro z wz _ _ _) | ((with_reducible apply wpl_box_str); (exact rfl); intro z wz _ _ _) | ((with_reducible apply wpl_box_bool); (exact rfl); intro z wz _ _ _) | ((with_reducible apply wpl_box_ptr); (exact rfl); intro z wz _ _ _) | ((with_reducible apply (wpl_guard (op := .load _ _))); (exact rfl)) | ((with_reducible apply (wpl_guard (op := .fieldAddr _ _ _))); (exact rfl)) | ((with_reducible apply wpl_loadrow); (exact rfl); infer_instance; infer_instance; (first | (with_reducible assumption) | (with_reducible exact H32.size _) | (with_reducible exact enc_sz _ rfl) | kernel_rfl)) | ((with_reducible apply wpl_loadcellN); (exact rfl); infer_instance; (exact rfl)))
    go_ret
    exact ⟨rfl, (stepN (w0 := w)).chg⟩
end Go.Proofs.YteieielodooglaaGreat
end
