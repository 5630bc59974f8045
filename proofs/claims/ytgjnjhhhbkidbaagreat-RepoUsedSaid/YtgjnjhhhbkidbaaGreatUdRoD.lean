/- RoD -/
import Derived.Test.YtgjnjhhhbkidbaaGreatUdEnG
import Derived.Test.YtgjnjhhhbkidbaaGreatUdRoR
open Go Go.RowKit
namespace Go.Proofs.YtgjnjhhhbkidbaaGreat
theorem rootOk_eq (v e : Int) (K : List KR) : rootB v e (K.map KR.m) = rootOk v e K := by
  rw [rootB, rootOk, List.all_map]
  rfl
theorem keysE_eq (K : List KR) : keysB (K.map KR.m) = keysE K := by
  rw [keysB, keysE, List.flatMap_map]
  rfl
theorem flatH_len (l : List H32) : (flatH l).length = 32 * l.length := by
  induction l with
  | nil => rfl
  | cons a l ih =>
    have e : flatH (a :: l) = a.l ++ flatH l := rfl
    rw [e, List.length_append, ih, a.len, List.length_cons]
    omega
theorem keyB_len (l : List H32) (need : Int) : (keyB l need).length ≤ 18 + 32 * l.length := by
  have a1 := encAll_len [(l.length : Int)]
  have a2 := encAll_len [need]
  simp only [keyB, List.length_append, flatH_len, List.length_cons, List.length_nil] at *
  omega
theorem keysE_len (K : List KR) (h : ∀ k ∈ K, k.l.length ≤ 1000) : (keysE K).length ≤ 32018 * K.length := by
  induction K with
  | nil => exact Nat.zero_le _
  | cons k K ih =>
    have e : keysE (k :: K) = keyB k.l k.need ++ keysE K := rfl
    have h1 := ih (fun k hk => h k (List.mem_cons_of_mem _ hk))
    have h2 := h k (List.mem_cons_self ..)
    have h3 := keyB_len k.l k.need
    rw [e, List.length_append, List.length_cons]
    omega
set_option maxRecDepth 100000 in
set_option maxHeartbeats 1600000 in
theorem encRoot_calls (v e0 : Int) (K : List KR) (h4 : K.length = 4) {w : World} (hK : ∀ k ∈ K, KIn w k) :
    Calls Tryz.prog 77 #[.int .i64 1, .agg (rtL v e0 K).toArray, .func (.func 78) #[] #[], .func (.func 79) #[] #[]] w (EncPost (rootOk v e0 K) (encAll [1] ++ (encAll [v, e0] ++ keysE K)) w) := by
  have HK := Lib.hid hK
  have H4 := Lib.hid h4
  have hlen := rtL_len v e0 K h4
  have hone := rtL_one v e0 K
  clear hK h4
  unfold EncPost
  rcases hb : rootOk v e0 K with _ | _
  · go_enter Tryz.func77, Tryz.ntmps77
    go_wp2_with (first | ((with_reducible apply (wpl_box_agg (dst := some 5))); (exact rfl); intro zt wzt _ _ _) | ((with_reducible apply wpl_loadrow); (exact rfl); infer_instance; infer_instance; (first | (with_reducible assumption) | (with_reducible exact H32.size _) | kernel_rfl)))
    refine (isRoot_calls v e0 K H4.out (fun k hk => KIn.nw (w0 := w) (HK.out k hk))).mono ?_
    rw [hb]
    rintro e w5 ⟨rfl, _⟩
    go_wp2_with fail
    go_ret2
    exact ⟨stepN, rfl⟩
  · go_enter Tryz.func77, Tryz.ntmps77
    go_wp2_with (first | ((with_reducible apply (wpl_box_agg (dst := some 5))); (exact rfl); intro zt wzt _ _ _) | ((with_reducible apply wpl_loadrow); (exact rfl); infer_instance; infer_instance; (first | (with_reducible assumption) | (with_reducible exact H32.size _) | kernel_rfl)))
    refine (isRoot_calls v e0 K H4.out (fun k hk => KIn.nw (w0 := w) (HK.out k hk))).mono ?_
    rw [hb]
    rintro e w5 ⟨rfl, _⟩
    go_wp2_with (first | ((with_reducible apply (wpl_alloc (dst := some 10))); intro zw wzw _ _ _))
    have hzw := (inferInstance : HB wzw zw 184 #[.slice none 0 0]).out.lt
    have n9 : Nw w wzw := inferInstance
    have hzw0 : w.heap.size ≤ zw := (NewA.monoS (w0 := w) (NewA.of_born (z := zw) 0)).out ⟨zw, 0, none⟩ rfl
    refine wp_region_N ((only zw)) (by kernel_rfl) (fun wd _ _ => ?_)
    refine' takeH (i := 0) (v := _) rfl (by kernel_rfl) (by kernel_rfl) (by kernel_rfl) (fun _ _ _ h => h) (yields_of (by rfl) (fun w' _ => ?_)) inferInstance ?_
    rotate_left
    · (go_simp; try with_reducible rfl)
    try simp only [Act.put, sA]; try simp only [sB, sC]
    refine' takeH (i := 3) (v := _) rfl (by kernel_rfl) (by kernel_rfl) (by kernel_rfl) (fun _ _ _ h => h) (yields_of (by rfl) (fun w' _ => ?_)) inferInstance ?_
    rotate_left
    · (go_simp; try with_reducible rfl)
    try simp only [Act.put, sA]; try simp only [sB, sC]
    refine' takeH (i := 4) (v := _) rfl (by kernel_rfl) (by kernel_rfl) (by kernel_rfl) (fun _ _ _ h => h) (yields_of (by rfl) (fun w' _ => ?_)) inferInstance ?_
    rotate_left
    · ((with_reducible apply ev_loadrow); (exact rfl); infer_instance; infer_instance; (first | (with_reducible assumption) | (with_reducible exact H32.size _) | kernel_rfl))
    try simp only [Act.put, sA]; try simp only [sB, sC]
    refine goH (i := 1) (by kernel_rfl) rfl (fun K_ hK_ => ?_)
    rw [if_pos (by kernel_rfl)]
    refine wpr_of_list ?_
    (first | ((with_reducible apply (stop_dst (dst := some 16))); (try simp only [Act.put, sA, sB, sC]); ((with_reducible apply (wpl_bslice (dst := some 16))); (exact run_int1 _ _); intro zb wb _ _ _)) | ((with_reducible apply (stop_dst (dst := some 21))); (try simp only [Act.put, sA, sB, sC]); ((with_reducible apply (wpl_bslice (dst := some 21))); (exact run_fld2 _ _ _ _ _); intro zc wb _ _ _)))
    refine wpList_nil ?_
    unfold onlyN
    refine hK_.out _ _ inferInstance (fun _ => ?_)
    clear hK_ K_
    try simp only [Act.put, sA]; try simp only [sB, sC]
    refine goH (i := 2) (by kernel_rfl) rfl (fun K_ hK_ => ?_)
    go_simp
    refine (numsC (z := zb) (vs := [1]) rfl rfl (show 9 * 1 ≤ 1000000000 by decide)).mono ?_
    rintro e w6 ⟨f6, caps6, T6, rfl, _, hL6, hT6⟩
    have hzb : wzw.heap.size ≤ zb := (NewA.monoS (w0 := wzw) (NewA.of_born (z := zb) 0)).out ⟨zb, 0, none⟩ rfl
    refine hK_.out _ _ inferInstance (fun _ => ?_)
    clear hK_ K_
    try simp only [Act.put, sA]; try simp only [sB, sC]
    refine goH (i := 5) (by kernel_rfl) rfl (fun K_ hK_ => ?_)
    go_simp
    refine (layRoot_calls v e0 K H4.out (fun k hk => KIn.chg (HK.out k hk) (n9.out.trans (stepN (w0 := wzw)).chg (fun _ _ h => h)) (fun _ _ h => h))).mono ?_
    rintro e w7 ⟨f7, caps7, T7, rfl, _, hL7, hT7⟩
    refine hK_.out _ _ inferInstance (fun _ => ?_)
    clear hK_ K_
    try simp only [Act.put, sA]; try simp only [sB, sC]
    refine goH (i := 6) (by kernel_rfl) rfl (fun K_ hK_ => ?_)
    rw [if_pos (by kernel_rfl)]
    refine wpr_of_list ?_
    (first | ((with_reducible apply (stop_dst (dst := some 16))); (try simp only [Act.put, sA, sB, sC]); ((with_reducible apply (wpl_bslice (dst := some 16))); (exact run_int1 _ _); intro zb wb _ _ _)) | ((with_reducible apply (stop_dst (dst := some 21))); (try simp only [Act.put, sA, sB, sC]); ((with_reducible apply (wpl_bslice (dst := some 21))); (exact run_fld2 _ _ _ _ _); intro zc wb _ _ _)))
    refine wpList_nil ?_
    unfold onlyN
    refine hK_.out _ _ inferInstance (fun _ => ?_)
    clear hK_ K_
    try simp only [Act.put, sA]; try simp only [sB, sC]
    refine goH (i := 7) (by kernel_rfl) rfl (fun K_ hK_ => ?_)
    go_simp
    refine (fields2 (z := zc) (hL6.later (stepN (w0 := w6)).chg (fun _ _ h => h)) (hL7.later (stepN (w0 := w7)).chg (fun _ _ h => h))).mono ?_
    rintro e w8 ⟨f8, caps8, T8, rfl, _, hL8, hT8⟩
    have hzc : wzw.heap.size ≤ zc := (NewA.monoS (w0 := wzw) (NewA.of_born (z := zc) 0)).out ⟨zc, 0, none⟩ rfl
    obtain ⟨f9, caps9, he9, hent, hrun⟩ := hL8.run
    injection he9 with e1 _ e2
    injection e1 with e1
    subst e1 e2
    have hw8 : WrAt w8 zw none [] := ⟨⟨0, 0, rfl, (inferInstance : HB w8 zw 184 #[.slice none 0 0]).out, Own.nil _ _ _⟩, fun ad h => by cases h⟩
    have hT : ∀ x, Wf zw none x → ¬ T8 x := by
      rintro x (rfl | ⟨ad, e, _⟩) hx
      · rcases hT8 _ hx with h | h | h | h
        · have := Nat.le_trans (stepN (w0 := wzw)).chg.size h; omega
        · omega
        · rcases hT6 _ h with h | h
          · have := Nat.le_trans (stepN (w0 := wzw)).chg.size h; omega
          · omega
        · rcases hT7 _ h with h | ⟨k, hk, hx⟩
          · have := Nat.le_trans (stepN (w0 := wzw)).chg.size h; omega
          · have := (HK.out k hk).low _ hx; omega
      · cases e
    have hlen2 : ([] : List UInt8).length + (encAll [1] ++ (encAll [v, e0] ++ keysE K)).length ≤ 1000000000 := by
      have a1 := encAll_len [1]
      have a2 := encAll_len [v, e0]
      have a3 := keysE_len K (fun k hk => by rw [(HK.out k hk).len]; exact (HK.out k hk).le)
      rw [H4.out] at a3
      simp only [List.length_append, List.length_cons, List.length_nil] at *
      omega
    have HRUN := Lib.hid (hrun w8 zw none [] (Chg.refl _ _) hw8 hT hlen2)
    clear hrun
    refine hK_.out _ _ inferInstance (fun _ => ?_)
    clear hK_ K_
    try simp only [Act.put, sA]; try simp only [sB, sC]
    refine goH (i := 8) (by kernel_rfl) rfl (fun K_ hK_ => ?_)
    go_simp
    refine HRUN.out.mono ?_
    rintro e w9 ⟨rfl, A9, hW9, hC9, hM9⟩
    have st9 : Step (only zw) w8 w9 := ⟨hC9.mono (fun x _ hx => by
      rcases hx with h | ⟨ad, e, _⟩
      · exact h
      · cases e)⟩
    refine hK_.out _ _ inferInstance (fun _ => ?_)
    clear hK_ K_
    try simp only [Act.put, sA]; try simp only [sB, sC]
    refine wpAnyH_done (by kernel_rfl) ?_ _
    have n99 : Nw w w9 := inferInstance
    go_wp2_with fail
    refine (Out_calls zw A9 _ w9 hW9 (by rw [List.length_append]; omega)).mono ?_
    rintro e w10 ⟨A10, n10, c10, rfl, hn, ho, hc, hnew⟩
    have st10 : Step nowhere w9 w10 := ⟨hc.out⟩
    go_wp2_with fail
    go_ret2
    exact ⟨stepN, A10, n10, c10, rfl, by have h9 := hn.out; simpa using h9, ⟨ho.out⟩, ⟨fun ad e => Nat.le_trans n99.out.size (hnew.out ad e)⟩⟩
set_option maxRecDepth 100000 in
theorem EncodeRoot_calls (v e0 : Int) (K : List KR) (h4 : K.length = 4) {w : World} (hK : ∀ k ∈ K, KIn w k) :
    Calls Tryz.prog 35 #[.agg (rtL v e0 K).toArray] w (EncPost (rootOk v e0 K) (encAll [1] ++ (encAll [v, e0] ++ keysE K)) w) := by
  have HK := Lib.hid hK
  have H4 := Lib.hid h4
  have hlen := rtL_len v e0 K h4
  have hone := rtL_one v e0 K
  clear hK h4
  unfold EncPost
  rcases hb : rootOk v e0 K with _ | _
  all_goals
    go_enter Tryz.func35, Tryz.ntmps35
    go_wp2_with (first | ((with_reducible apply (wpl_box_agg (dst := some 1))); (exact rfl); intro zt wzt _ _ _) | ((with_reducible apply wpl_loadrow); (exact rfl); infer_instance; infer_instance; (first | (with_reducible assumption) | (with_reducible exact H32.size _) | kernel_rfl)))
    refine (encRoot_calls v e0 K H4.out (fun k hk => KIn.nw (w0 := w) (HK.out k hk))).mono ?_
    rintro e w5 ⟨_, h5⟩
    rw [hb] at h5
  · obtain rfl : e = _ := h5
    go_wp2_with fail
    go_ret2
    exact ⟨stepN, rfl⟩
  · obtain ⟨A, n, c, rfl, hn, hO, hA⟩ := h5
    have HN := Lib.hid hn
    clear hn
    go_wp2_with fail
    go_ret2
    exact ⟨stepN, A, n, c, rfl, by have h9 := HN.out; simpa using h9, hO, NewA.monoS hA⟩
end Go.Proofs.YtgjnjhhhbkidbaaGreat
