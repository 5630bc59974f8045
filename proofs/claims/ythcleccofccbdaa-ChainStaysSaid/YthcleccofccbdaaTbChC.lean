/- ChC -/
import Derived.Test.YthcleccofccbdaaTbChB
import Derived.Test.YthcleccofccbdaaTbPlain
open Go Go.RowKit
namespace Go.Proofs.Ythcleccofccbdaa
theorem HB.envs {w : World} {z : Nat} {t : TypeId} {L : List EnvR} (h : HB w z t (cellsOf L).toArray) : HR w (some ⟨z, 0, none⟩) (cellsOf L) := ⟨by
  have h1 := h.rdL
  simpa using h1⟩
theorem run_env1 (E : EnvR) (w : World) : (Instr.buildSlice 90 1 #[(0, .agg (RowC.enc E).toArray)]).run Try.prog w = .ok (.slice (some ⟨w.heap.size, 0, none⟩) 1 1) (w.alloc (.cells (cellsOf [E]).toArray 58)) := by kernel_rfl
theorem NextQ.eq {r : RootM} {m : List UInt8} {l : List MarkR} {v1 x1 e1 v2 x2 e2 : Int} {K1 K2 : List KR} (h1 : (v1, x1, K1.map KR.m, e1) = nextM r m l) (h2 : (v2, x2, K2.map KR.m, e2) = nextM r m l) : v1 = v2 ∧ x1 = x2 ∧ K1.map KR.m = K2.map KR.m ∧ e1 = e2 := by
  have h := h1.trans h2.symm
  obtain ⟨a, h⟩ := Prod.mk.inj h
  obtain ⟨b, h⟩ := Prod.mk.inj h
  obtain ⟨c, d⟩ := Prod.mk.inj h
  exact ⟨a, b, c, d⟩
theorem sum60 {K : List KR} {w : World} (hK : ∀ k ∈ K, KIn0 w k) (h : decide (60 < sumK K) = false) : ∀ k ∈ K, KIn w k := fun k hk => by
  have h1 := sumK_mem K k hk
  have h2 : ¬ 60 < sumK K := of_decide_eq_false h
  exact ⟨(hK k hk).rd, (hK k hk).len, (hK k hk).cap, by omega⟩
set_option maxRecDepth 100000 in
set_option maxHeartbeats 3200000 in
theorem chainNext_calls (v e0 now : Int) (K : List KR) (E : EnvR) {w : World} (h4 : K.length = 4) (hK : ∀ k ∈ K, KIn0 w k) (hn : ∀ k ∈ K, k.n ≤ 4398046511104) (hE : EnvIn w E) :
    Calls Try.prog 8 #[.agg (rtL v e0 K).toArray, .agg (RowC.enc E).toArray, .int .i64 now] w fun e w' => e = .returned (.bool true) ∧ Chg nowhere w w' := by
  have HE := Lib.hid hE
  have HK := Lib.hid hK
  have HN := Lib.hid hn
  have H4 := Lib.hid h4
  have hlen := rtL_len v e0 K h4
  have hone := rtL_one v e0 K
  have hse : (RowC.enc E).toArray.size = 2 := rfl
  have kbE := run_env1 E
  obtain ⟨R, hR⟩ : ∃ R, R = decide (60 < sumK K) := ⟨_, rfl⟩
  have HR0 := Lib.hid hR
  clear hE hK hn h4 hR
  go_enter Try.func8, Try.ntmps8
  go_wp2_with (first | ((with_reducible apply wpl_loadrow); (exact rfl); infer_instance; infer_instance; (exact hse)) | ((with_reducible apply (stop_dst (dst := some 12))); (try simp only [Act.put, sA, sB, sC]); ((with_reducible apply (wpl_bslice (dst := some 12))); (exact kbE _); intro zs wb _ _ _)) | ((with_reducible apply (wpl_box_agg (dst := some 3))); (exact rfl); intro zr wzr _ _ _) | ((with_reducible apply (wpl_box_agg (dst := some 4))); (exact rfl); intro ze wze _ _ _))
  have hrs : HR wb (some ⟨zs, 0, none⟩) (cellsOf [E]) := HB.envs (inferInstance : HB wb zs 58 (cellsOf [E]).toArray)
  refine (clarge_calls (L := [E]) (n := 1) (fun r hr => by
    rw [List.mem_singleton.1 hr]
    exact EnvIn.nw (w0 := w) HE.out) rfl (by decide)).mono ?_
  rintro e w1 ⟨⟨b, rfl⟩, _⟩
  cases b with
  | true =>
    go_wp2_with (first | go_skip)
    go_ret
    exact ⟨rfl, (stepN (w0 := w)).chg⟩
  | false =>
    have hz1 : HB w1 zr 27 (rtL v e0 K).toArray := inferInstance
    have hze1 : HB w1 ze 58 (RowC.enc E).toArray := inferInstance
    have n1 : Nw w w1 := inferInstance
    go_wp2_with (first | ((with_reducible apply wpl_loadrow); (exact rfl); (exact hz1); infer_instance; (exact hlen)) | ((with_reducible apply (wpl_guard (op := .load _ _))); (exact rfl)))
    refine (cmany_calls v e0 H4.out HN.out).mono ?_
    rw [← HR0.out]
    rintro e w2 ⟨rfl, _⟩
    cases R
    case true =>
      go_wp2_with fail
      go_ret
      exact ⟨rfl, (stepN (w0 := w)).chg⟩
    case false =>
      have HKK : Hid (∀ k ∈ K, KIn w k) := Lib.hid (sum60 HK.out HR0.out.symm)
      have hz2 : HB w2 zr 27 (rtL v e0 K).toArray := inferInstance
      have hze2 : HB w2 ze 58 (RowC.enc E).toArray := inferInstance
      go_wp2_with (first | ((with_reducible apply wpl_loadrow); (exact rfl); (first | (exact hz2) | (exact hze2)); infer_instance; (first | (exact hlen) | (exact hse))))
      refine (next_calls v e0 K H4.out E (fun k hk => KIn.nw (w0 := w) (HKK.out k hk)) (EnvIn.nw (w0 := w) HE.out)).mono ?_
      rintro e w3 ⟨_, v1, x1, K1, err1, rfl, hK1, hKs1⟩
      have hl1 := rtL_len v1 x1 K1 hK1.out.1
      have ho1 := rtL_one v1 x1 K1
      have hz3 : HB w3 zr 27 (rtL v e0 K).toArray := inferInstance
      have hze3 : HB w3 ze 58 (RowC.enc E).toArray := inferInstance
      go_wp2_with (first | ((with_reducible apply wpl_loadrow); (exact rfl); infer_instance; infer_instance; (first | (exact hlen) | (exact hse))) | ((with_reducible apply (wpl_alloc (dst := some 7))); intro z7 wz7 _ _ _) | ((with_reducible apply wpl_storerow); (exact rfl); (exact rfl); infer_instance; infer_instance; (first | (with_reducible assumption) | (with_reducible exact H32.size _) | kernel_rfl); (first | (with_reducible assumption) | (with_reducible exact H32.size _) | kernel_rfl); (first | (with_reducible exact u8s_one _) | (with_reducible assumption) | kernel_rfl); intro ws _ _))
      have n3 : Nw w3 ws := inferInstance
      have hz7 : HB ws z7 27 (rtL v1 x1 K1).toArray := inferInstance
      refine (rnext_calls v e0 K H4.out E (fun k hk => KIn.nw (w0 := w) (HKK.out k hk)) (EnvIn.nw (w0 := w) HE.out)).mono ?_
      rintro e w4 ⟨_, v2, x2, K2, err2, rfl, hK2, hKs2⟩
      obtain ⟨hv, hx, hm, he⟩ := NextQ.eq hK1.out.2 hK2.out.2
      subst hv hx he
      have HMM := Lib.hid hm
      clear hm
      have hl2 := rtL_len v1 x1 K2 hK2.out.1
      have ho2 := rtL_one v1 x1 K2
      have n34 : Nw w3 w4 := inferInstance
      have hz74 : HB w4 z7 27 (rtL v1 x1 K1).toArray := inferInstance
      have hz34 : HB w4 zr 27 (rtL v e0 K).toArray := inferInstance
      have q1 : (err1 == err1) = true := by simp
      by_cases hf : now < e0
      all_goals
        have hfd := hf
        go_wp2_with (first | ((with_reducible apply (wpl_alloc (dst := some 9))); intro z9 wz9 _ _ _) | ((with_reducible apply wpl_storerow); (exact rfl); (exact rfl); infer_instance; infer_instance; (first | (with_reducible assumption) | (with_reducible exact H32.size _) | kernel_rfl); (first | (with_reducible assumption) | (with_reducible exact H32.size _) | kernel_rfl); (first | (with_reducible exact u8s_one _) | (with_reducible assumption) | kernel_rfl); intro ws _ _))
        have hz95 : HB ws z9 27 (rtL v1 x1 K2).toArray := inferInstance
        have n4 : Nw w4 ws := inferInstance
        refine wp_region_N (nowhere) (by kernel_rfl) (fun wd _ _ => ?_)
        refine' takeH (i := 0) (v := _) rfl (by kernel_rfl) (by kernel_rfl) (by kernel_rfl) (fun _ _ _ h => h) (yields_of (by rfl) (fun w' _ => ?_)) inferInstance ?_
        rotate_left
        · ((with_reducible apply ev_loadrow); (exact rfl); infer_instance; infer_instance; (first | (with_reducible assumption) | (with_reducible exact H32.size _) | kernel_rfl))
        try simp only [Act.put, sA]; try simp only [sB, sC]
        refine' takeH (i := 1) (v := _) rfl (by kernel_rfl) (by kernel_rfl) (by kernel_rfl) (fun _ _ _ h => h) (yields_of (by rfl) (fun w' _ => ?_)) inferInstance ?_
        rotate_left
        · ((with_reducible apply ev_loadrow); (exact rfl); infer_instance; infer_instance; (first | (with_reducible assumption) | (with_reducible exact H32.size _) | kernel_rfl))
        try simp only [Act.put, sA]; try simp only [sB, sC]
        refine goH (i := 2) (by kernel_rfl) rfl (fun K_ hK_ => ?_)
        go_simp
        refine (sameRoot_calls v1 x1 K1 K2 hK1.out.1 hK2.out.1 (fun k hk => KIn.chg (hKs1.out k hk).1 (n34.out.trans (stepN (w0 := w4)).chg (fun _ _ h => h)) (fun _ _ h => h)) (fun k hk => KIn.chg (hKs2.out k hk).1 (stepN (w0 := w4)).chg (fun _ _ h => h)) HMM.out).mono ?_
        rintro e w6 ⟨rfl, _⟩
        refine hK_.out _ _ inferInstance (fun _ => ?_)
        clear hK_ K_
        try simp only [Act.put, sA]; try simp only [sB, sC]
        refine' takeH (i := 3) (v := _) rfl (by kernel_rfl) (by kernel_rfl) (by kernel_rfl) (fun _ _ _ h => h) (yields_of (by rfl) (fun w' _ => ?_)) inferInstance ?_
        rotate_left
        · (go_simp; try with_reducible rfl)
        try simp only [Act.put, sA]; try simp only [sB, sC]
        refine' takeH (i := 4) (v := _) rfl (by kernel_rfl) (by kernel_rfl) (by kernel_rfl) (fun _ _ _ h => h) (yields_of (by rfl) (fun w' _ => ?_)) inferInstance ?_
        rotate_left
        · (go_simp; try with_reducible rfl)
        try simp only [Act.put, sA]; try simp only [sB, sC]
        refine' takeH (i := 5) (v := _) rfl (by kernel_rfl) (by kernel_rfl) (by kernel_rfl) (fun _ _ _ h => h) (yields_of (by rfl) (fun w' _ => ?_)) inferInstance ?_
        rotate_left
        · (go_simp; try with_reducible rfl)
        try simp only [Act.put, sA]; try simp only [sB, sC]
        refine' takeH (i := 6) (v := _) rfl (by kernel_rfl) (by kernel_rfl) (by kernel_rfl) (fun _ _ _ h => h) (yields_of (by rfl) (fun w' _ => ?_)) inferInstance ?_
        rotate_left
        · (go_simp; try with_reducible rfl)
        try simp only [Act.put, sA]; try simp only [sB, sC]
        refine' takeH (i := 7) (v := _) rfl (by kernel_rfl) (by kernel_rfl) (by kernel_rfl) (fun _ _ _ h => h) (yields_of (by rfl) (fun w' _ => ?_)) inferInstance ?_
        rotate_left
        · (go_simp; try with_reducible rfl)
        try simp only [Act.put, sA]; try simp only [sB, sC]
        refine' takeH (i := 8) (v := _) rfl (by kernel_rfl) (by kernel_rfl) (by kernel_rfl) (fun _ _ _ h => h) (yields_of (by rfl) (fun w' _ => ?_)) inferInstance ?_
        rotate_left
        · (go_simp; try with_reducible rfl)
        try simp only [Act.put, sA]; try simp only [sB, sC]
        refine' takeH (i := 9) (v := _) rfl (by kernel_rfl) (by kernel_rfl) (by kernel_rfl) (fun _ _ _ h => h) (yields_of (by rfl) (fun w' _ => ?_)) inferInstance ?_
        rotate_left
        · ((with_reducible apply ev_loadrow); (exact rfl); infer_instance; infer_instance; (first | (with_reducible assumption) | (with_reducible exact H32.size _) | kernel_rfl))
        try simp only [Act.put, sA]; try simp only [sB, sC]
        refine' takeH (i := 10) (v := _) rfl (by kernel_rfl) (by kernel_rfl) (by kernel_rfl) (fun _ _ _ h => h) (yields_of (by rfl) (fun w' _ => ?_)) inferInstance ?_
        rotate_left
        · (go_simp; try with_reducible rfl)
        try simp only [Act.put, sA]; try simp only [sB, sC]
        refine' takeH (i := 12) (v := _) rfl (by kernel_rfl) (by kernel_rfl) (by kernel_rfl) (fun _ _ _ h => h) (yields_of (by rfl) (fun w' _ => ?_)) inferInstance ?_
        rotate_left
        · (go_simp; try with_reducible rfl)
        try simp only [Act.put, sA]; try simp only [sB, sC]
        refine' takeH (i := 13) (v := _) rfl (by kernel_rfl) (by kernel_rfl) (by kernel_rfl) (fun _ _ _ h => h) (yields_of (by rfl) (fun w' _ => ?_)) inferInstance ?_
        rotate_left
        · ((with_reducible apply ev_loadcellN); (exact rfl); infer_instance; infer_instance; (exact rfl))
        try simp only [Act.put, sA]; try simp only [sB, sC]
        refine' takeH (i := 14) (v := _) rfl (by kernel_rfl) (by kernel_rfl) (by kernel_rfl) (fun _ _ _ h => h) (yields_of (by rfl) (fun w' _ => ?_)) inferInstance ?_
        rotate_left
        · (go_simp; try with_reducible rfl)
        try simp only [Act.put, sA]; try simp only [sB, sC]
        refine' takeH (i := 15) (v := _) rfl (by kernel_rfl) (by kernel_rfl) (by kernel_rfl) (fun _ _ _ h => h) (yields_of (by rfl) (fun w' _ => ?_)) inferInstance ?_
        rotate_left
        · (go_simp; try with_reducible rfl)
        try simp only [Act.put, sA]; try simp only [sB, sC]
        refine goH (i := 11) (by kernel_rfl) rfl (fun K_ hK_ => ?_)
        go_simp
        refine (fresh_calls v e0 now K H4.out _).mono ?_
        first | rw [decide_eq_true hf] | rw [decide_eq_false (show ¬ now < e0 by omega)]
        rintro e w7 ⟨rfl, _⟩
        refine hK_.out _ _ inferInstance (fun _ => ?_)
        clear hK_ K_
        try simp only [Act.put, sA]; try simp only [sB, sC]
        refine' takeH (i := 16) (v := _) rfl (by kernel_rfl) (by kernel_rfl) (by kernel_rfl) (fun _ _ _ h => h) (yields_of (by rfl) (fun w' _ => ?_)) inferInstance ?_
        rotate_left
        · (go_simp; try with_reducible rfl)
        try simp only [Act.put, sA]; try simp only [sB, sC]
        refine' takeH (i := 17) (v := _) rfl (by kernel_rfl) (by kernel_rfl) (by kernel_rfl) (fun _ _ _ h => h) (yields_of (by rfl) (fun w' _ => ?_)) inferInstance ?_
        rotate_left
        · (go_simp; try with_reducible rfl)
        try simp only [Act.put, sA]; try simp only [sB, sC]
        refine' takeH (i := 18) (v := _) rfl (by kernel_rfl) (by kernel_rfl) (by kernel_rfl) (fun _ _ _ h => h) (yields_of (by rfl) (fun w' _ => ?_)) inferInstance ?_
        rotate_left
        · (go_simp; try with_reducible rfl)
        try simp only [Act.put, sA]; try simp only [sB, sC]
        refine goH (i := 19) (by kernel_rfl) rfl (fun K_ hK_ => ?_)
        go_simp
        refine (cknown_calls _).mono ?_
        rintro e w8 ⟨rfl, _⟩
        refine hK_.out _ _ inferInstance (fun _ => ?_)
        clear hK_ K_
        try simp only [Act.put, sA]; try simp only [sB, sC]
        refine' takeH (i := 20) (v := _) rfl (by kernel_rfl) (by kernel_rfl) (by kernel_rfl) (fun _ _ _ h => h) (yields_of (by rfl) (fun w' _ => ?_)) inferInstance ?_
        rotate_left
        · (go_simp; try with_reducible rfl)
        try simp only [Act.put, sA]; try simp only [sB, sC]
        refine' takeH (i := 21) (v := _) rfl (by kernel_rfl) (by kernel_rfl) (by kernel_rfl) (fun _ _ _ h => h) (yields_of (by rfl) (fun w' _ => ?_)) inferInstance ?_
        rotate_left
        · (go_simp; try with_reducible rfl)
        try simp only [Act.put, sA]; try simp only [sB, sC]
        refine wpAnyH_done (by kernel_rfl) ?_ _
        go_wp2_with fail
        go_ret
        exact ⟨rfl, (stepN (w0 := w)).chg⟩
end Go.Proofs.Ythcleccofccbdaa
