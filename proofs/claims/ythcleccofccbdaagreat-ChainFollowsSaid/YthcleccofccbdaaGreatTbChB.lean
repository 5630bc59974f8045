/- ChB -/
import Derived.Test.YthcleccofccbdaaGreatTbChA
open Go Go.RowKit
namespace Go.Proofs.YthcleccofccbdaaGreat
abbrev RootM := Int × Int × List (List H32 × Int)
def roleM (r : List (List H32 × Int)) : List H32 × Int := r.getD 0 ([], 0)
theorem roleM_map (K : List KR) (h : 0 < K.length) : roleM (K.map KR.m) = (gt K 0).m := by
  rcases K with _ | ⟨a, K⟩
  · simp at h
  · rfl
def nextM (r : RootM) (m : List UInt8) (l : List MarkR) : Int × Int × List (List H32 × Int) × Int :=
  if rtOk m then
    if (rtV m : Int) - 1 = r.1 then
      if meetsB m l (roleM r.2.2).1 (roleM r.2.2).2 && meetsB m l (roleM (kK (rtS m) 4)).1 (roleM (kK (rtS m) 4)).2 then (rtV m, rtX m, kK (rtS m) 4, 0) else (0, 0, noK.map KR.m, 4)
    else (0, 0, noK.map KR.m, 6)
  else (0, 0, noK.map KR.m, 2)
def NextQ (r : RootM) (m : List UInt8) (l : List MarkR) (w : World) : Ending → World → Prop := fun e w' => Step nowhere w w' ∧ ∃ v x K err, e = .returned (.tuple #[.agg (rtL v x K).toArray, .int .i64 err]) ∧ Hid (K.length = 4 ∧ (v, x, K.map KR.m, err) = nextM r m l) ∧ Hid (KsIn w w' K)
theorem rtOk_v {m : List UInt8} (h : rtOk m = true) : 1 ≤ (rtV m : Int) ∧ (rtV m : Int) ≤ 1073741824 := by
  unfold rtOk at h
  rw [Bool.and_eq_true] at h
  have h1 := h.2
  unfold rootB verB at h1
  simp only [Bool.and_eq_true, decide_eq_true_eq] at h1
  exact h1.1.1
theorem rtOk_k {m : List UInt8} (h : rtOk m = true) : ∀ k ∈ kK (rtS m) 4, k.1.length ≤ 4 := by
  unfold rtOk at h
  rw [Bool.and_eq_true] at h
  exact root_len4 h.2
set_option maxRecDepth 100000 in
set_option maxHeartbeats 3200000 in
theorem next_calls (v e0 : Int) (K : List KR) (h4 : K.length = 4) (E : EnvR) {w : World} (hK : ∀ k ∈ K, KIn w k) (hE : EnvIn w E) :
    Calls Tryz.prog 79 #[.agg (rtL v e0 K).toArray, .agg (RowC.enc E).toArray] w (NextQ (v, e0, K.map KR.m) E.m E.l w) := by
  have HE := Lib.hid hE
  have HK := Lib.hid hK
  have H4 := Lib.hid h4
  have hlen := rtL_len v e0 K h4
  have hone := rtL_one v e0 K
  have hse : (RowC.enc E).toArray.size = 2 := rfl
  have kb0 : ∀ w, (Instr.build 45 #[]).run Tryz.prog w = .ok (.agg (rtL 0 0 noK).toArray) w := fun _ => by kernel_rfl
  obtain ⟨N, hN⟩ : ∃ N, N = nextM (v, e0, K.map KR.m) E.m E.l := ⟨_, rfl⟩
  have HN : Hid (N = if rtOk E.m then if (rtV E.m : Int) - 1 = v then if meetsB E.m E.l (gt K 0).l (gt K 0).need && meetsB E.m E.l (roleM (kK (rtS E.m) 4)).1 (roleM (kK (rtS E.m) 4)).2 then ((rtV E.m : Int), (rtX E.m : Int), kK (rtS E.m) 4, (0 : Int)) else (0, 0, noK.map KR.m, 4) else (0, 0, noK.map KR.m, 6) else (0, 0, noK.map KR.m, 2)) := Lib.hid (by
    rw [hN, nextM, roleM_map K (by omega)]
    rfl)
  unfold NextQ
  rw [← hN]
  clear hN hE hK h4
  go_enter Tryz.func79, Tryz.ntmps79
  go_wp2_with (first | ((with_reducible apply (wpl_box_agg (dst := some 2))); (exact rfl); intro z2 wz2 _ _ _) | ((with_reducible apply (wpl_box_agg (dst := some 3))); (exact rfl); intro z3 wz3 _ _ _) | ((with_reducible apply (wpl_alloc (dst := some 4))); intro zo wzo _ _ _) | ((with_reducible apply wpl_loadcellN); (exact rfl); infer_instance; (exact rfl)))
  have hszo : w.heap.size ≤ wzo.heap.size := (inferInstance : SzLe w wzo).out
  have hzol : zo < wzo.heap.size := (inferInstance : HB wzo zo 45 (rtL 0 0 noK).toArray).out.lt
  have n0 : Nw w wzo := inferInstance
  have hm0 : HR wzo E.M (bs E.m) := ⟨(EnvIn.nw (w := wzo) HE.out).mr⟩
  refine (DecodeRoot_calls (b := E.m) HE.out.ml HE.out.mn).mono ?_
  rintro e w5 ⟨_, v1, x1, K1, err1, rfl, hK1, hKs1⟩
  have hl1 := rtL_len v1 x1 K1 hK1.out.1
  have ho1 := rtL_one v1 x1 K1
  have n5 : Nw wzo w5 := inferInstance
  have ho5 : HB w5 zo 45 (rtL 0 0 noK).toArray := inferInstance
  have hz2 : HB w5 z2 45 (rtL v e0 K).toArray := inferInstance
  have hz3 : HB w5 z3 133 (RowC.enc E).toArray := inferInstance
  by_cases hok : rtOk E.m = true
  · have hm1 := hK1.out.2
    rw [rtM, if_pos hok] at hm1
    obtain ⟨hv1, hq1⟩ := Prod.mk.inj hm1
    obtain ⟨hx1, hq2⟩ := Prod.mk.inj hq1
    obtain ⟨hk1, he1⟩ := Prod.mk.inj hq2
    have hvb := rtOk_v hok
    rw [← hv1] at hvb
    obtain ⟨hvb1, hvb2⟩ := hvb
    have hkl := rtOk_k hok
    have l1 : 0 < K1.length := by rw [hK1.out.1]; decide
    have l0 : 0 < K.length := by rw [H4.out]; decide
    have HR1 : Hid (roleM (kK (rtS E.m) 4) = (gt K1 0).m) := Lib.hid (by rw [← hk1, roleM_map K1 l1])
    have HNV : Hid (N = if v1 - 1 = v then if meetsB E.m E.l (gt K 0).l (gt K 0).need && meetsB E.m E.l (gt K1 0).l (gt K1 0).need then (v1, x1, K1.map KR.m, (0 : Int)) else (0, 0, noK.map KR.m, 4) else (0, 0, noK.map KR.m, 6)) := Lib.hid (by
      rw [HN.out, if_pos hok, HR1.out, ← hv1, ← hx1, ← hk1]
      rfl)
    subst he1
    clear hm1 hv1 hx1 hk1 hq1 hq2 hkl HN hok
    by_cases hv : v1 - 1 = v
    · have HNV2 : Hid (N = if meetsB E.m E.l (gt K 0).l (gt K 0).need && meetsB E.m E.l (gt K1 0).l (gt K1 0).need then (v1, x1, K1.map KR.m, (0 : Int)) else (0, 0, noK.map KR.m, 4)) := Lib.hid (by rw [HNV.out, if_pos hv])
      subst hv
      clear HNV
      have HKI : Hid (KIn w (gt K 0)) := Lib.hid (HK.out _ (gt_mem K 0 l0))
      obtain ⟨B1, hB1⟩ : ∃ B, B = meetsB E.m E.l (gt K 0).l (gt K 0).need := ⟨_, rfl⟩
      have HB1 := Lib.hid hB1
      clear hB1
      go_wp2_with (first | ((with_reducible apply (stop_dst (dst := some 26))); (with_reducible apply (wpl_indexRK (i := 0) (m := 4))); (exact rfl); (exact rfl); (exact Tryz.underlying43); (kernel_rfl); (decide)) | ((with_reducible apply (stop_dst (dst := some 27))); (with_reducible apply (wpl_loadRK (i := 0))); (exact rfl); infer_instance; infer_instance; (exact l0)) | ((with_reducible apply (wpl_alloc (dst := some 6))); intro zn wzn _ _ _) | ((with_reducible apply wpl_loadrow); (exact rfl); infer_instance; infer_instance; (first | (with_reducible assumption) | (with_reducible exact H32.size _) | kernel_rfl)) | ((with_reducible apply wpl_loadcellN); (exact rfl); infer_instance; (exact rfl)) | ((with_reducible apply wpl_storerow); (exact rfl); (exact rfl); infer_instance; infer_instance; (first | (with_reducible assumption) | (with_reducible exact H32.size _) | kernel_rfl); (first | (with_reducible assumption) | (with_reducible exact H32.size _) | kernel_rfl); (first | (with_reducible exact u8s_one _) | (with_reducible assumption) | kernel_rfl); intro ws _ _))
      have hzn : HB ws zn 45 (rtL v1 x1 K1).toArray := inferInstance
      have n6 : Nw w ws := inferInstance
      have hE6 := EnvIn.nw (w := ws) HE.out
      have hm6 : HR ws E.M (bs E.m) := ⟨hE6.mr⟩
      have ha6 : HR ws E.A (cellsOf E.l) := ⟨hE6.ar⟩
      have hk6 : HR ws (gt K 0).A (cellsOf (gt K 0).l) := ⟨(KIn.nw (w := ws) HKI.out).rd⟩
      clear hE6
      refine (meets_calls (m := E.m) (l := E.l) (ks := (gt K 0).l) (gt K 0).need (fun r hr => MarkIn.nw (w0 := w) (w := ws) (HE.out.marks r hr)) HE.out.al HE.out.ac HE.out.an HE.out.ml HE.out.mc HE.out.mn HKI.out.len (Nat.le_trans HKI.out.le (by decide)) HKI.out.cap).mono ?_
      rw [← HB1.out]
      rintro e w7 ⟨rfl, _⟩
      have n7 : Nw wzo w7 := inferInstance
      have ho7 : HB w7 zo 45 (rtL 0 0 noK).toArray := inferInstance
      have hz37 : HB w7 z3 133 (RowC.enc E).toArray := inferInstance
      have hzn7 : HB w7 zn 45 (rtL v1 x1 K1).toArray := inferInstance
      cases B1 with
      | false =>
        go_wp2_with (first | go_skip | ((with_reducible apply wpl_build); (exact kb0 _)) | ((with_reducible apply wpl_storerow); (exact rfl); (exact rfl); infer_instance; infer_instance; (exact rfl); (first | (exact rfl) | (exact hl1)); (first | (exact rtL_one _ _ _) | (exact ho1)); intro ws _ _))
        refine ret_row_ rfl rfl rfl (n := 10) rfl rfl ⟨stepN, 0, 0, noK, 4, rfl, Lib.hid ⟨rfl, ?_⟩, Lib.hid (KsIn.none _ _)⟩
        rw [HNV2.out, ← HB1.out]
        rfl
      | true =>
        have n7w : Nw w w7 := inferInstance
        have hE7 := EnvIn.nw (w := w7) HE.out
        have hm7 : HR w7 E.M (bs E.m) := ⟨hE7.mr⟩
        have ha7 : HR w7 E.A (cellsOf E.l) := ⟨hE7.ar⟩
        have HKJ : Hid (KIn w7 (gt K1 0)) := Lib.hid ((hKs1.out _ (gt_mem K1 0 l1)).1.chg (inferInstance : Nw w5 w7).out (fun _ _ h => h))
        have hk7 : HR w7 (gt K1 0).A (cellsOf (gt K1 0).l) := ⟨HKJ.out.rd⟩
        obtain ⟨B2, hB2⟩ : ∃ B, B = meetsB E.m E.l (gt K1 0).l (gt K1 0).need := ⟨_, rfl⟩
        have HB2 := Lib.hid hB2
        clear hE7 hB2
        go_wp2_with (first | ((with_reducible apply (wpl_guard (op := .load _ _))); (exact rfl)) | ((with_reducible apply (wpl_guard (op := .indexAddr _ _ _))); (exact rfl)) | ((with_reducible apply (stop_dst (dst := some 33))); (with_reducible apply (wpl_indexRK (i := 0) (m := 4))); (exact rfl); (exact rfl); (exact Tryz.underlying43); (kernel_rfl); (decide)) | ((with_reducible apply (stop_dst (dst := some 34))); (with_reducible apply (wpl_loadRK (i := 0))); (exact rfl); (exact hzn7); infer_instance; (exact l1)) | ((with_reducible apply (wpl_guard (op := .fieldAddr _ _ _))); (exact rfl)) | ((with_reducible apply wpl_loadrow); (exact rfl); infer_instance; infer_instance; (first | (with_reducible assumption) | (with_reducible exact H32.size _) | kernel_rfl)))
        refine (meets_calls (m := E.m) (l := E.l) (ks := (gt K1 0).l) (gt K1 0).need (fun r hr => MarkIn.nw (w0 := w) (w := w7) (HE.out.marks r hr)) HE.out.al HE.out.ac HE.out.an HE.out.ml HE.out.mc HE.out.mn HKJ.out.len (Nat.le_trans HKJ.out.le (by decide)) HKJ.out.cap).mono ?_
        rw [← HB2.out]
        rintro e w8 ⟨rfl, _⟩
        have ho8 : HB w8 zo 45 (rtL 0 0 noK).toArray := inferInstance
        have hzn8 : HB w8 zn 45 (rtL v1 x1 K1).toArray := inferInstance
        cases B2 with
        | false =>
          go_wp2_with (first | ((with_reducible apply wpl_build); (exact kb0 _)) | ((with_reducible apply wpl_storerow); (exact rfl); (exact rfl); infer_instance; infer_instance; (exact rfl); (first | (exact rfl) | (exact hl1)); (first | (exact rtL_one _ _ _) | (exact ho1)); intro ws _ _))
          refine ret_row_ rfl rfl rfl (n := 10) rfl rfl ⟨stepN, 0, 0, noK, 4, rfl, Lib.hid ⟨rfl, ?_⟩, Lib.hid (KsIn.none _ _)⟩
          rw [HNV2.out, ← HB1.out, ← HB2.out]
          rfl
        | true =>
          go_wp2_with (first | ((with_reducible apply wpl_loadrow); (exact rfl); (exact hzn8); infer_instance; (exact hl1)) | ((with_reducible apply wpl_storerow); (exact rfl); (exact rfl); infer_instance; infer_instance; (first | (with_reducible assumption) | (with_reducible exact H32.size _) | kernel_rfl); (first | (with_reducible assumption) | (with_reducible exact H32.size _) | kernel_rfl); (first | (with_reducible exact u8s_one _) | (with_reducible assumption) | kernel_rfl); intro ws _ _))
          refine ret_row_ rfl rfl rfl (n := 10) hl1 rfl ⟨stepN, v1, x1, K1, 0, rfl, Lib.hid ⟨hK1.out.1, ?_⟩, Lib.hid ?_⟩
          · rw [HNV2.out, ← HB1.out, ← HB2.out]
            rfl
          · exact KsIn.first (w1 := wzo) (hKs1.out.chg (inferInstance : Ch (only zo) w5 ws).out (fun x h => by have h' : x = zo := h; omega)) hszo
    · have hvI : (v1 - 1 != v) = true := by simpa using hv
      have HV : Hid (¬ v1 - 1 = v) := Lib.hid hv
      have hvJ : v1 - 1 < v ∨ v < v1 - 1 := by omega
      clear hv
      go_wp2_with (first | ((with_reducible apply wpl_build); (exact kb0 _)) | ((with_reducible apply wpl_storerow); (exact rfl); (exact rfl); infer_instance; infer_instance; (exact rfl); (first | (exact rfl) | (exact hl1)); (first | (exact rtL_one _ _ _) | (exact ho1)); intro ws _ _) | ((with_reducible apply (wpl_alloc (dst := some 6))); intro zn wzn _ _ _) | ((with_reducible apply wpl_loadcellN); (exact rfl); infer_instance; (exact rfl)) | ((with_reducible apply wpl_storerow); (exact rfl); (exact rfl); infer_instance; infer_instance; (first | (with_reducible assumption) | (with_reducible exact H32.size _) | kernel_rfl); (first | (with_reducible assumption) | (with_reducible exact H32.size _) | kernel_rfl); (first | (with_reducible exact u8s_one _) | (with_reducible assumption) | kernel_rfl); intro ws _ _))
      refine ret_row_ rfl rfl rfl (n := 10) rfl rfl ⟨stepN, 0, 0, noK, 6, rfl, Lib.hid ⟨rfl, ?_⟩, Lib.hid (KsIn.none _ _)⟩
      rw [HNV.out, if_neg HV.out]
  · have hm1 := hK1.out.2
    rw [rtM, if_neg hok] at hm1
    obtain ⟨hv1, hq1⟩ := Prod.mk.inj hm1
    obtain ⟨hx1, hq2⟩ := Prod.mk.inj hq1
    obtain ⟨hk1, he1⟩ := Prod.mk.inj hq2
    have HN2 : Hid (N = (0, 0, noK.map KR.m, 2)) := Lib.hid (by rw [HN.out, if_neg hok])
    subst he1
    clear hm1 hv1 hx1 hk1 hq1 hq2 hok HN
    go_wp2_with (first | ((with_reducible apply wpl_build); (exact kb0 _)) | ((with_reducible apply wpl_storerow); (exact rfl); (exact rfl); infer_instance; infer_instance; (exact rfl); (first | (exact rfl) | (exact hl1)); (first | (exact rtL_one _ _ _) | (exact ho1)); intro ws _ _) | ((with_reducible apply (wpl_alloc (dst := some 6))); intro zn wzn _ _ _) | ((with_reducible apply wpl_storerow); (exact rfl); (exact rfl); infer_instance; infer_instance; (first | (with_reducible assumption) | (with_reducible exact H32.size _) | kernel_rfl); (first | (with_reducible assumption) | (with_reducible exact H32.size _) | kernel_rfl); (first | (with_reducible exact u8s_one _) | (with_reducible assumption) | kernel_rfl); intro ws _ _))
    refine ret_row_ rfl rfl rfl (n := 10) rfl rfl ⟨stepN, 0, 0, noK, 2, rfl, Lib.hid ⟨rfl, ?_⟩, Lib.hid (KsIn.none _ _)⟩
    rw [HN2.out]
set_option maxRecDepth 100000 in
set_option maxHeartbeats 3200000 in
theorem rnext_calls (v e0 : Int) (K : List KR) (h4 : K.length = 4) (E : EnvR) {w : World} (hK : ∀ k ∈ K, KIn w k) (hE : EnvIn w E) :
    Calls Tryz.prog 80 #[.agg (rtL v e0 K).toArray, .agg (RowC.enc E).toArray] w (NextQ (v, e0, K.map KR.m) E.m E.l w) := by
  have HE := Lib.hid hE
  have HK := Lib.hid hK
  have H4 := Lib.hid h4
  have hlen := rtL_len v e0 K h4
  have hone := rtL_one v e0 K
  have hse : (RowC.enc E).toArray.size = 2 := rfl
  have kb0 : ∀ w, (Instr.build 45 #[]).run Tryz.prog w = .ok (.agg (rtL 0 0 noK).toArray) w := fun _ => by kernel_rfl
  obtain ⟨N, hN⟩ : ∃ N, N = nextM (v, e0, K.map KR.m) E.m E.l := ⟨_, rfl⟩
  have HN : Hid (N = if rtOk E.m then if (rtV E.m : Int) - 1 = v then if meetsB E.m E.l (gt K 0).l (gt K 0).need && meetsB E.m E.l (roleM (kK (rtS E.m) 4)).1 (roleM (kK (rtS E.m) 4)).2 then ((rtV E.m : Int), (rtX E.m : Int), kK (rtS E.m) 4, (0 : Int)) else (0, 0, noK.map KR.m, 4) else (0, 0, noK.map KR.m, 6) else (0, 0, noK.map KR.m, 2)) := Lib.hid (by
    rw [hN, nextM, roleM_map K (by omega)]
    rfl)
  unfold NextQ
  rw [← hN]
  clear hN hE hK h4
  go_enter Tryz.func80, Tryz.ntmps80
  go_wp2_with (first | ((with_reducible apply (wpl_box_agg (dst := some 2))); (exact rfl); intro z2 wz2 _ _ _) | ((with_reducible apply (wpl_box_agg (dst := some 3))); (exact rfl); intro z3 wz3 _ _ _) | ((with_reducible apply (wpl_alloc (dst := some 4))); intro zo wzo _ _ _) | ((with_reducible apply wpl_loadcellN); (exact rfl); infer_instance; (exact rfl)))
  have hszo : w.heap.size ≤ wzo.heap.size := (inferInstance : SzLe w wzo).out
  have hzol : zo < wzo.heap.size := (inferInstance : HB wzo zo 45 (rtL 0 0 noK).toArray).out.lt
  have n0 : Nw w wzo := inferInstance
  have hm0 : HR wzo E.M (bs E.m) := ⟨(EnvIn.nw (w := wzo) HE.out).mr⟩
  refine (rDecodeRoot_calls (b := E.m) HE.out.ml HE.out.mc HE.out.mn).mono ?_
  rintro e w5 ⟨_, v1, x1, K1, err1, rfl, hK1, hKs1⟩
  have hl1 := rtL_len v1 x1 K1 hK1.out.1
  have ho1 := rtL_one v1 x1 K1
  have n5 : Nw wzo w5 := inferInstance
  have ho5 : HB w5 zo 45 (rtL 0 0 noK).toArray := inferInstance
  have hz2 : HB w5 z2 45 (rtL v e0 K).toArray := inferInstance
  have hz3 : HB w5 z3 133 (RowC.enc E).toArray := inferInstance
  by_cases hok : rtOk E.m = true
  · have hm1 := hK1.out.2
    rw [rtM, if_pos hok] at hm1
    obtain ⟨hv1, hq1⟩ := Prod.mk.inj hm1
    obtain ⟨hx1, hq2⟩ := Prod.mk.inj hq1
    obtain ⟨hk1, he1⟩ := Prod.mk.inj hq2
    have hvb := rtOk_v hok
    rw [← hv1] at hvb
    obtain ⟨hvb1, hvb2⟩ := hvb
    have hkl := rtOk_k hok
    have l1 : 0 < K1.length := by rw [hK1.out.1]; decide
    have l0 : 0 < K.length := by rw [H4.out]; decide
    have HR1 : Hid (roleM (kK (rtS E.m) 4) = (gt K1 0).m) := Lib.hid (by rw [← hk1, roleM_map K1 l1])
    have HNV : Hid (N = if v1 - 1 = v then if meetsB E.m E.l (gt K 0).l (gt K 0).need && meetsB E.m E.l (gt K1 0).l (gt K1 0).need then (v1, x1, K1.map KR.m, (0 : Int)) else (0, 0, noK.map KR.m, 4) else (0, 0, noK.map KR.m, 6)) := Lib.hid (by
      rw [HN.out, if_pos hok, HR1.out, ← hv1, ← hx1, ← hk1]
      rfl)
    subst he1
    clear hm1 hv1 hx1 hk1 hq1 hq2 hkl HN hok
    by_cases hv : v1 - 1 = v
    · have HNV2 : Hid (N = if meetsB E.m E.l (gt K 0).l (gt K 0).need && meetsB E.m E.l (gt K1 0).l (gt K1 0).need then (v1, x1, K1.map KR.m, (0 : Int)) else (0, 0, noK.map KR.m, 4)) := Lib.hid (by rw [HNV.out, if_pos hv])
      subst hv
      clear HNV
      have HKI : Hid (KIn w (gt K 0)) := Lib.hid (HK.out _ (gt_mem K 0 l0))
      obtain ⟨B1, hB1⟩ : ∃ B, B = meetsB E.m E.l (gt K 0).l (gt K 0).need := ⟨_, rfl⟩
      have HB1 := Lib.hid hB1
      clear hB1
      go_wp2_with (first | ((with_reducible apply (stop_dst (dst := some 29))); (with_reducible apply (wpl_indexRK (i := 0) (m := 4))); (exact rfl); (exact rfl); (exact Tryz.underlying43); (kernel_rfl); (decide)) | ((with_reducible apply (stop_dst (dst := some 30))); (with_reducible apply (wpl_loadRK (i := 0))); (exact rfl); infer_instance; infer_instance; (exact l0)) | ((with_reducible apply (wpl_alloc (dst := some 6))); intro zn wzn _ _ _) | ((with_reducible apply wpl_loadrow); (exact rfl); infer_instance; infer_instance; (first | (with_reducible assumption) | (with_reducible exact H32.size _) | kernel_rfl)) | ((with_reducible apply wpl_loadcellN); (exact rfl); infer_instance; (exact rfl)) | ((with_reducible apply wpl_storerow); (exact rfl); (exact rfl); infer_instance; infer_instance; (first | (with_reducible assumption) | (with_reducible exact H32.size _) | kernel_rfl); (first | (with_reducible assumption) | (with_reducible exact H32.size _) | kernel_rfl); (first | (with_reducible exact u8s_one _) | (with_reducible assumption) | kernel_rfl); intro ws _ _))
      have hzn : HB ws zn 45 (rtL v1 x1 K1).toArray := inferInstance
      have n6 : Nw w ws := inferInstance
      have hE6 := EnvIn.nw (w := ws) HE.out
      have hm6 : HR ws E.M (bs E.m) := ⟨hE6.mr⟩
      have ha6 : HR ws E.A (cellsOf E.l) := ⟨hE6.ar⟩
      have hk6 : HR ws (gt K 0).A (cellsOf (gt K 0).l) := ⟨(KIn.nw (w := ws) HKI.out).rd⟩
      clear hE6
      refine (rmeets_calls (m := E.m) (l := E.l) (ks := (gt K 0).l) (gt K 0).need (fun r hr => MarkIn.nw (w0 := w) (w := ws) (HE.out.marks r hr)) HE.out.al HE.out.an HE.out.ml HE.out.mn HKI.out.len (Nat.le_trans HKI.out.le (by decide))).mono ?_
      rw [← HB1.out]
      rintro e w7 ⟨rfl, _⟩
      have n7 : Nw wzo w7 := inferInstance
      have ho7 : HB w7 zo 45 (rtL 0 0 noK).toArray := inferInstance
      have hz37 : HB w7 z3 133 (RowC.enc E).toArray := inferInstance
      have hzn7 : HB w7 zn 45 (rtL v1 x1 K1).toArray := inferInstance
      cases B1 with
      | false =>
        go_wp2_with (first | go_skip | ((with_reducible apply wpl_build); (exact kb0 _)) | ((with_reducible apply wpl_storerow); (exact rfl); (exact rfl); infer_instance; infer_instance; (exact rfl); (first | (exact rfl) | (exact hl1)); (first | (exact rtL_one _ _ _) | (exact ho1)); intro ws _ _))
        refine ret_row_ rfl rfl rfl (n := 10) rfl rfl ⟨stepN, 0, 0, noK, 4, rfl, Lib.hid ⟨rfl, ?_⟩, Lib.hid (KsIn.none _ _)⟩
        rw [HNV2.out, ← HB1.out]
        rfl
      | true =>
        have n7w : Nw w w7 := inferInstance
        have hE7 := EnvIn.nw (w := w7) HE.out
        have hm7 : HR w7 E.M (bs E.m) := ⟨hE7.mr⟩
        have ha7 : HR w7 E.A (cellsOf E.l) := ⟨hE7.ar⟩
        have HKJ : Hid (KIn w7 (gt K1 0)) := Lib.hid ((hKs1.out _ (gt_mem K1 0 l1)).1.chg (inferInstance : Nw w5 w7).out (fun _ _ h => h))
        have hk7 : HR w7 (gt K1 0).A (cellsOf (gt K1 0).l) := ⟨HKJ.out.rd⟩
        obtain ⟨B2, hB2⟩ : ∃ B, B = meetsB E.m E.l (gt K1 0).l (gt K1 0).need := ⟨_, rfl⟩
        have HB2 := Lib.hid hB2
        clear hE7 hB2
        go_wp2_with (first | ((with_reducible apply (wpl_guard (op := .load _ _))); (exact rfl)) | ((with_reducible apply (wpl_guard (op := .indexAddr _ _ _))); (exact rfl)) | ((with_reducible apply (stop_dst (dst := some 36))); (with_reducible apply (wpl_indexRK (i := 0) (m := 4))); (exact rfl); (exact rfl); (exact Tryz.underlying43); (kernel_rfl); (decide)) | ((with_reducible apply (stop_dst (dst := some 37))); (with_reducible apply (wpl_loadRK (i := 0))); (exact rfl); (exact hzn7); infer_instance; (exact l1)) | ((with_reducible apply (wpl_guard (op := .fieldAddr _ _ _))); (exact rfl)) | ((with_reducible apply wpl_loadrow); (exact rfl); infer_instance; infer_instance; (first | (with_reducible assumption) | (with_reducible exact H32.size _) | kernel_rfl)))
        refine (rmeets_calls (m := E.m) (l := E.l) (ks := (gt K1 0).l) (gt K1 0).need (fun r hr => MarkIn.nw (w0 := w) (w := w7) (HE.out.marks r hr)) HE.out.al HE.out.an HE.out.ml HE.out.mn HKJ.out.len (Nat.le_trans HKJ.out.le (by decide))).mono ?_
        rw [← HB2.out]
        rintro e w8 ⟨rfl, _⟩
        have ho8 : HB w8 zo 45 (rtL 0 0 noK).toArray := inferInstance
        have hzn8 : HB w8 zn 45 (rtL v1 x1 K1).toArray := inferInstance
        cases B2 with
        | false =>
          go_wp2_with (first | ((with_reducible apply wpl_build); (exact kb0 _)) | ((with_reducible apply wpl_storerow); (exact rfl); (exact rfl); infer_instance; infer_instance; (exact rfl); (first | (exact rfl) | (exact hl1)); (first | (exact rtL_one _ _ _) | (exact ho1)); intro ws _ _))
          refine ret_row_ rfl rfl rfl (n := 10) rfl rfl ⟨stepN, 0, 0, noK, 4, rfl, Lib.hid ⟨rfl, ?_⟩, Lib.hid (KsIn.none _ _)⟩
          rw [HNV2.out, ← HB1.out, ← HB2.out]
          rfl
        | true =>
          go_wp2_with (first | ((with_reducible apply wpl_loadrow); (exact rfl); (exact hzn8); infer_instance; (exact hl1)) | ((with_reducible apply wpl_storerow); (exact rfl); (exact rfl); infer_instance; infer_instance; (first | (with_reducible assumption) | (with_reducible exact H32.size _) | kernel_rfl); (first | (with_reducible assumption) | (with_reducible exact H32.size _) | kernel_rfl); (first | (with_reducible exact u8s_one _) | (with_reducible assumption) | kernel_rfl); intro ws _ _))
          refine ret_row_ rfl rfl rfl (n := 10) hl1 rfl ⟨stepN, v1, x1, K1, 0, rfl, Lib.hid ⟨hK1.out.1, ?_⟩, Lib.hid ?_⟩
          · rw [HNV2.out, ← HB1.out, ← HB2.out]
            rfl
          · exact KsIn.first (w1 := wzo) (hKs1.out.chg (inferInstance : Ch (only zo) w5 ws).out (fun x h => by have h' : x = zo := h; omega)) hszo
    · have hvI : (v1 - 1 != v) = true := by simpa using hv
      have HV : Hid (¬ v1 - 1 = v) := Lib.hid hv
      have hvJ : v1 - 1 < v ∨ v < v1 - 1 := by omega
      clear hv
      go_wp2_with (first | ((with_reducible apply wpl_build); (exact kb0 _)) | ((with_reducible apply wpl_storerow); (exact rfl); (exact rfl); infer_instance; infer_instance; (exact rfl); (first | (exact rfl) | (exact hl1)); (first | (exact rtL_one _ _ _) | (exact ho1)); intro ws _ _) | ((with_reducible apply (wpl_alloc (dst := some 6))); intro zn wzn _ _ _) | ((with_reducible apply wpl_loadcellN); (exact rfl); infer_instance; (exact rfl)) | ((with_reducible apply wpl_storerow); (exact rfl); (exact rfl); infer_instance; infer_instance; (first | (with_reducible assumption) | (with_reducible exact H32.size _) | kernel_rfl); (first | (with_reducible assumption) | (with_reducible exact H32.size _) | kernel_rfl); (first | (with_reducible exact u8s_one _) | (with_reducible assumption) | kernel_rfl); intro ws _ _))
      refine ret_row_ rfl rfl rfl (n := 10) rfl rfl ⟨stepN, 0, 0, noK, 6, rfl, Lib.hid ⟨rfl, ?_⟩, Lib.hid (KsIn.none _ _)⟩
      rw [HNV.out, if_neg HV.out]
  · have hm1 := hK1.out.2
    rw [rtM, if_neg hok] at hm1
    obtain ⟨hv1, hq1⟩ := Prod.mk.inj hm1
    obtain ⟨hx1, hq2⟩ := Prod.mk.inj hq1
    obtain ⟨hk1, he1⟩ := Prod.mk.inj hq2
    have HN2 : Hid (N = (0, 0, noK.map KR.m, 2)) := Lib.hid (by rw [HN.out, if_neg hok])
    subst he1
    clear hm1 hv1 hx1 hk1 hq1 hq2 hok HN
    go_wp2_with (first | ((with_reducible apply wpl_build); (exact kb0 _)) | ((with_reducible apply wpl_storerow); (exact rfl); (exact rfl); infer_instance; infer_instance; (exact rfl); (first | (exact rfl) | (exact hl1)); (first | (exact rtL_one _ _ _) | (exact ho1)); intro ws _ _) | ((with_reducible apply (wpl_alloc (dst := some 6))); intro zn wzn _ _ _) | ((with_reducible apply wpl_storerow); (exact rfl); (exact rfl); infer_instance; infer_instance; (first | (with_reducible assumption) | (with_reducible exact H32.size _) | kernel_rfl); (first | (with_reducible assumption) | (with_reducible exact H32.size _) | kernel_rfl); (first | (with_reducible exact u8s_one _) | (with_reducible assumption) | kernel_rfl); intro ws _ _))
    refine ret_row_ rfl rfl rfl (n := 10) rfl rfl ⟨stepN, 0, 0, noK, 2, rfl, Lib.hid ⟨rfl, ?_⟩, Lib.hid (KsIn.none _ _)⟩
    rw [HN2.out]
end Go.Proofs.YthcleccofccbdaaGreat
