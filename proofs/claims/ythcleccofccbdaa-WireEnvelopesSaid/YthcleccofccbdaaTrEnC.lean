/- EnC -/
import Derived.Test.YthcleccofccbdaaTrEnB
open Go Go.RowKit
namespace Go.Proofs.Ythcleccofccbdaa
set_option maxRecDepth 100000 in
set_option maxHeartbeats 1600000 in
theorem encEnv_calls {M A : Option Addr} {nb cb n c : Nat} {m : List UInt8} {L : List MarkR} {w : World} [hM : HR w M (bs m)] [hr : HR w A (cellsOf L)] (hK : ∀ x ∈ L, MarkIn w x) (hm : m.length = nb) (hl : L.length = n) (hmx : n ≤ 9223372036854775807) (hmb : nb ≤ 9223372036854775807) :
    Calls Try.prog 67 #[.int .i64 6, .agg #[.slice M nb cb, .slice A n c], .func (.func 68) #[] #[], .func (.func 69) #[] #[]] w (EncPost (envOk m (L.map MarkR.m)) (encAll [6] ++ (encRow m ++ (encAll [(n : Int)] ++ marksE (L.map MarkR.m)))) w) := by
  have HRR := Lib.hid hr.out
  have HMM := Lib.hid hM.out
  have HL := Lib.hid hl
  have HNB := Lib.hid hm
  have HK := Lib.hid hK
  clear hl hm hK
  unfold EncPost
  rcases hb : envOk m (L.map MarkR.m) with _ | _
  · go_enter Try.func67, Try.ntmps67
    go_wp2_with (first | ((with_reducible apply (wpl_alloc (dst := some 5))); intro zt wzt _ _ _) | ((with_reducible apply (wpl_box_agg (dst := some 5))); (exact rfl); intro zt wzt _ _ _) | ((with_reducible apply (wpl_box_int (dst := some 5))); (exact rfl); intro zt wzt _ _ _) | ((with_reducible apply (wpl_box_slice (dst := some 5))); (exact rfl); intro zt wzt _ _ _) | ((with_reducible apply (wpl_box_str (dst := some 5))); (exact rfl); intro zt wzt _ _ _) | ((with_reducible apply (wpl_box_bool (dst := some 5))); (exact rfl); intro zt wzt _ _ _) | ((with_reducible apply (wpl_box_ptr (dst := some 5))); (exact rfl); intro zt wzt _ _ _) | ((with_reducible apply wpl_alloc); intro z wz _ _ _) | ((with_reducible apply wpl_box_agg); (exact rfl); intro z wz _ _ _) | ((with_reducible apply wpl_box_int); (exact rfl); intro z wz _ _ _) | ((with_reducible apply wpl_box_slice); (exact rfl); intro z wz _ _ _) | ((with_reducible apply wpl_box_str); (exact rfl); intro z wz _ _ _) | ((with_reducible apply wpl_box_bool); (exact rfl); intro z wz _ _ _) | ((with_reducible apply wpl_box_ptr); (exact rfl); intro z wz _ _ _) | ((with_reducible apply wpl_loadrow); (exact rfl); infer_instance; infer_instance; (first | (with_reducible assumption) | (with_reducible exact H32.size _) | (with_reducible exact enc_sz _ rfl) | kernel_rfl)) | ((with_reducible apply wpl_loadcellN); (exact rfl); infer_instance; (exact rfl)))
    refine (isEnv_calls (m := m) (L := L) HNB.out HL.out hmx hmb).mono ?_
    rw [hb]
    rintro e w5 ⟨rfl, _⟩
    go_wp2_with (first | ((with_reducible apply wpl_alloc); intro z wz _ _ _) | ((with_reducible apply wpl_box_agg); (exact rfl); intro z wz _ _ _) | ((with_reducible apply wpl_box_int); (exact rfl); intro z wz _ _ _) | ((with_reducible apply wpl_box_slice); (exact rfl); intro z wz _ _ _) | ((with_reducible apply wpl_box_str); (exact rfl); intro z wz _ _ _) | ((with_reducible apply wpl_box_bool); (exact rfl); intro z wz _ _ _) | ((with_reducible apply wpl_box_ptr); (exact rfl); intro z wz _ _ _) | ((with_reducible apply wpl_loadrow); (exact rfl); infer_instance; infer_instance; (first | (with_reducible assumption) | (with_reducible exact H32.size _) | (with_reducible exact enc_sz _ rfl) | kernel_rfl)) | ((with_reducible apply wpl_loadcellN); (exact rfl); infer_instance; (exact rfl)))
    go_ret2
    exact ⟨stepN, rfl⟩
  · have hb2 : m.length ≤ 8192 ∧ L.length ≤ 4 ∧ L.all mkOk = true := by
      have h9 := hb
      unfold envOk at h9
      rw [List.length_map, List.all_map, show mkOkM ∘ MarkR.m = mkOk from rfl] at h9
      simp only [Bool.and_eq_true, decide_eq_true_eq] at h9
      exact ⟨h9.1.1, h9.1.2, h9.2⟩
    have HP := Lib.hid (marksE_len L hb2.2.2)
    have HP4 := Lib.hid hb2.2.1
    have HP8 := Lib.hid hb2.1
    have HG : Hid (∀ x ∈ L, mkOk x = true) := Lib.hid (fun x hx => List.all_eq_true.1 hb2.2.2 x hx)
    clear hb2
    go_enter Try.func67, Try.ntmps67
    go_wp2_with (first | ((with_reducible apply (wpl_alloc (dst := some 5))); intro zt wzt _ _ _) | ((with_reducible apply (wpl_box_agg (dst := some 5))); (exact rfl); intro zt wzt _ _ _) | ((with_reducible apply (wpl_box_int (dst := some 5))); (exact rfl); intro zt wzt _ _ _) | ((with_reducible apply (wpl_box_slice (dst := some 5))); (exact rfl); intro zt wzt _ _ _) | ((with_reducible apply (wpl_box_str (dst := some 5))); (exact rfl); intro zt wzt _ _ _) | ((with_reducible apply (wpl_box_bool (dst := some 5))); (exact rfl); intro zt wzt _ _ _) | ((with_reducible apply (wpl_box_ptr (dst := some 5))); (exact rfl); intro zt wzt _ _ _) | ((with_reducible apply wpl_alloc); intro z wz _ _ _) | ((with_reducible apply wpl_box_agg); (exact rfl); intro z wz _ _ _) | ((with_reducible apply wpl_box_int); (exact rfl); intro z wz _ _ _) | ((with_reducible apply wpl_box_slice); (exact rfl); intro z wz _ _ _) | ((with_reducible apply wpl_box_str); (exact rfl); intro z wz _ _ _) | ((with_reducible apply wpl_box_bool); (exact rfl); intro z wz _ _ _) | ((with_reducible apply wpl_box_ptr); (exact rfl); intro z wz _ _ _) | ((with_reducible apply wpl_loadrow); (exact rfl); infer_instance; infer_instance; (first | (with_reducible assumption) | (with_reducible exact H32.size _) | (with_reducible exact enc_sz _ rfl) | kernel_rfl)) | ((with_reducible apply wpl_loadcellN); (exact rfl); infer_instance; (exact rfl)))
    refine (isEnv_calls (m := m) (L := L) HNB.out HL.out hmx hmb).mono ?_
    rw [hb]
    rintro e w5 ⟨rfl, _⟩
    go_wp2_with (first | ((with_reducible apply (wpl_alloc (dst := some 10))); intro zw wzw _ _ _) | ((with_reducible apply (wpl_box_agg (dst := some 10))); (exact rfl); intro zw wzw _ _ _) | ((with_reducible apply (wpl_box_int (dst := some 10))); (exact rfl); intro zw wzw _ _ _) | ((with_reducible apply (wpl_box_slice (dst := some 10))); (exact rfl); intro zw wzw _ _ _) | ((with_reducible apply (wpl_box_str (dst := some 10))); (exact rfl); intro zw wzw _ _ _) | ((with_reducible apply (wpl_box_bool (dst := some 10))); (exact rfl); intro zw wzw _ _ _) | ((with_reducible apply (wpl_box_ptr (dst := some 10))); (exact rfl); intro zw wzw _ _ _) | ((with_reducible apply wpl_alloc); intro z wz _ _ _) | ((with_reducible apply wpl_box_agg); (exact rfl); intro z wz _ _ _) | ((with_reducible apply wpl_box_int); (exact rfl); intro z wz _ _ _) | ((with_reducible apply wpl_box_slice); (exact rfl); intro z wz _ _ _) | ((with_reducible apply wpl_box_str); (exact rfl); intro z wz _ _ _) | ((with_reducible apply wpl_box_bool); (exact rfl); intro z wz _ _ _) | ((with_reducible apply wpl_box_ptr); (exact rfl); intro z wz _ _ _) | ((with_reducible apply wpl_loadrow); (exact rfl); infer_instance; infer_instance; (first | (with_reducible assumption) | (with_reducible exact H32.size _) | (with_reducible exact enc_sz _ rfl) | kernel_rfl)) | ((with_reducible apply wpl_loadcellN); (exact rfl); infer_instance; (exact rfl)))
    have hzw := (inferInstance : HB wzw zw 155 #[.slice none 0 0]).out.lt
    have n9 : Nw w wzw := inferInstance
    have hzw0 : w.heap.size ≤ zw := (NewA.monoS (w0 := w) (NewA.of_born (z := zw) 0)).out ⟨zw, 0, none⟩ rfl
    have hrz : HR wzw A (cellsOf L) := ⟨HRR.out.later n9.out⟩
    have hmz : HR wzw M (bs m) := ⟨HMM.out.later n9.out⟩
    refine wp_region_N ((only zw)) (by kernel_rfl) (fun wd _ _ => ?_)
    refine' takeH (i := 0) (v := _) rfl (by kernel_rfl) (by kernel_rfl) (by kernel_rfl) (fun _ _ _ h => h) (yields_of (by rfl) (fun w' _ => ?_)) inferInstance ?_
    rotate_left
    · (go_simp; try with_reducible rfl)
    try simp only [Act.put, sA]; try simp only [sB, sC]
    refine' takeH (i := 3) (v := _) rfl (by kernel_rfl) (by kernel_rfl) (by kernel_rfl) (fun _ _ _ h => h) (yields_of (by rfl) (fun w' _ => ?_)) inferInstance ?_
    rotate_left
    · (go_simp; try with_reducible rfl)
    try simp only [Act.put, sA]; try simp only [sB, sC]
    refine' takeH (i := 4) (v := _) rfl (by kernel_rfl) (by kernel_rfl) (by kernel_rfl) (fun _ _ _ h => h) (yields_of (by rfl) (fun w' _ => ?_)) inferInstance ?_
    rotate_left
    · (first | ((with_reducible apply ev_loadrow); (exact rfl); infer_instance; infer_instance; (first | (with_reducible assumption) | (with_reducible exact H32.size _) | (with_reducible exact enc_sz _ rfl) | kernel_rfl)) | ((with_reducible apply (ev_loadhash (t := 78))); (exact rfl); infer_instance; infer_instance; (first | (with_reducible assumption) | omega)) | ((with_reducible apply ev_loadcellN); (exact rfl); infer_instance; infer_instance; (exact rfl)) | ((with_reducible apply (ev_loadE (α := MarkR) (t := 125))); infer_instance; (exact rfl); infer_instance; (exact rfl); (decide); (first | (with_reducible assumption) | omega | (focus (simp; done)) | (focus (simp; omega; done)) | decide)) | ((with_reducible apply (ev_loadF (α := MarkR))); infer_instance; (exact rfl); infer_instance; (exact rfl); (first | (with_reducible assumption) | omega | (focus (simp; done)) | (focus (simp; omega; done)) | decide); (exact rfl)) | ((with_reducible apply (ev_loadint (t := 3))); (exact rfl); infer_instance; infer_instance; (first | (with_reducible assumption) | omega)) | ((with_reducible apply (ev_loadbyte (t := 5))); (exact rfl); infer_instance; infer_instance; (first | (with_reducible assumption) | omega)) | (go_simp; try with_reducible rfl))
    try simp only [Act.put, sA]; try simp only [sB, sC]
    refine goH (i := 1) (by kernel_rfl) rfl (fun K_ hK_ => ?_)
    rw [if_pos (by kernel_rfl)]
    refine wpr_of_list ?_
    (first | ((with_reducible apply (stop_dst (dst := some 16))); (try simp only [Act.put, sA, sB, sC]); ((with_reducible apply (wpl_bslice (dst := some 16))); (exact run_int1 _ _); intro zb wb _ _ _)) | ((with_reducible apply (stop_dst (dst := some 21))); (try simp only [Act.put, sA, sB, sC]); ((with_reducible apply (wpl_bslice (dst := some 21))); (exact run_fld2 _ _ _ _ _); intro zc wb _ _ _)))
    refine wpList_nil ?_
    unfold onlyN
    refine hK_.out _ _ inferInstance (fun _ => ?_)
    clear hK_ K_
    try simp only [Act.put, sA]; try simp only [sB, sC]
    refine goH (i := 2) (by kernel_rfl) rfl (fun K_ hK_ => ?_)
    go_simp
    refine (numsC (z := zb) (vs := [6]) rfl rfl (show 9 * 1 ≤ 1000000000 by decide)).mono ?_
    rintro e w6 ⟨f6, caps6, T6, rfl, _, hL6, hT6⟩
    have hzb : wzw.heap.size ≤ zb := (NewA.monoS (w0 := wzw) (NewA.of_born (z := zb) 0)).out ⟨zb, 0, none⟩ rfl
    refine hK_.out _ _ inferInstance (fun _ => ?_)
    clear hK_ K_
    try simp only [Act.put, sA]; try simp only [sB, sC]
    refine goH (i := 5) (by kernel_rfl) rfl (fun K_ hK_ => ?_)
    go_simp
    refine (layEnv_calls (m := m) (L := L) (fun x hx => (HK.out x hx).chg (stepN (w0 := w)).chg (fun _ _ h => h)) HG.out HNB.out HL.out (by have h8 := HP4.out; have h9 := HL.out; omega)).mono ?_
    rintro e w7 ⟨f7, caps7, T7, rfl, _, hL7, hT7⟩
    refine hK_.out _ _ inferInstance (fun _ => ?_)
    clear hK_ K_
    try simp only [Act.put, sA]; try simp only [sB, sC]
    refine goH (i := 6) (by kernel_rfl) rfl (fun K_ hK_ => ?_)
    rw [if_pos (by kernel_rfl)]
    refine wpr_of_list ?_
    (first | ((with_reducible apply (stop_dst (dst := some 16))); (try simp only [Act.put, sA, sB, sC]); ((with_reducible apply (wpl_bslice (dst := some 16))); (exact run_int1 _ _); intro zb wb _ _ _)) | ((with_reducible apply (stop_dst (dst := some 21))); (try simp only [Act.put, sA, sB, sC]); ((with_reducible apply (wpl_bslice (dst := some 21))); (exact run_fld2 _ _ _ _ _); intro zc wb _ _ _)))
    refine wpList_nil ?_
    unfold onlyN
    refine hK_.out _ _ inferInstance (fun _ => ?_)
    clear hK_ K_
    try simp only [Act.put, sA]; try simp only [sB, sC]
    refine goH (i := 7) (by kernel_rfl) rfl (fun K_ hK_ => ?_)
    go_simp
    refine (fields2 (z := zc) (hL6.later (stepN (w0 := w6)).chg (fun _ _ h => h)) (hL7.later (stepN (w0 := w7)).chg (fun _ _ h => h))).mono ?_
    rintro e w8 ⟨f8, caps8, T8, rfl, _, hL8, hT8⟩
    have hzc : wzw.heap.size ≤ zc := (NewA.monoS (w0 := wzw) (NewA.of_born (z := zc) 0)).out ⟨zc, 0, none⟩ rfl
    obtain ⟨f9, caps9, he9, hent, hrun⟩ := hL8.run
    injection he9 with e1 _ e2
    injection e1 with e1
    subst e1 e2
    have hw8 : WrAt w8 zw none [] := ⟨⟨0, 0, rfl, (inferInstance : HB w8 zw 155 #[.slice none 0 0]).out, Own.nil _ _ _⟩, fun ad h => by cases h⟩
    have hT : ∀ x, Wf zw none x → ¬ T8 x := by
      rintro x (rfl | ⟨ad, e, _⟩) hx
      · rcases hT8 _ hx with h | h | h | h
        · have := Nat.le_trans (stepN (w0 := wzw)).chg.size h; omega
        · omega
        · rcases hT6 _ h with h | h
          · have := Nat.le_trans (stepN (w0 := wzw)).chg.size h; omega
          · omega
        · rcases hT7 _ h with h | ⟨hne, ad, e, hk⟩ | ⟨hne, ad, e, hk⟩ | ⟨r, hr, hk⟩
          · have := Nat.le_trans (stepN (w0 := wzw)).chg.size h; omega
          · have := rd_lt HMM.out hne e; omega
          · have := rd_lt HRR.out hne e; omega
          · have := (HK.out r hr).low _ hk; omega
      · cases e
    have hlen2 : ([] : List UInt8).length + (encAll [6] ++ (encRow m ++ (encAll [(n : Int)] ++ marksE (L.map MarkR.m)))).length ≤ 1000000000 := by
      have a1 := encAll_len [6]
      have a2 := encRow_len m (by have := HP8.out; omega)
      have a3 := encAll_len [(n : Int)]
      have a4 := HP.out
      have a5 := HP4.out
      have a6 := HP8.out
      simp only [List.length_append, List.length_cons, List.length_nil] at *
      omega
    have HRUN := Lib.hid (hrun w8 zw none [] (Chg.refl _ _) hw8 hT hlen2)
    clear hrun
    refine hK_.out _ _ inferInstance (fun _ => ?_)
    clear hK_ K_
    try simp only [Act.put, sA]; try simp only [sB, sC]
    refine goH (i := 8) (by kernel_rfl) rfl (fun K_ hK_ => ?_)
    go_simp
    refine HRUN.out.mono ?_
    rintro e w9 ⟨rfl, A9, hW9, hC9, hM9⟩
    have st9 : Step (only zw) w8 w9 := ⟨hC9.mono (fun x _ hx => by
      rcases hx with h | ⟨ad, e, _⟩
      · exact h
      · cases e)⟩
    refine hK_.out _ _ inferInstance (fun _ => ?_)
    clear hK_ K_
    try simp only [Act.put, sA]; try simp only [sB, sC]
    refine wpAnyH_done (by kernel_rfl) ?_ _
    have n99 : Nw w w9 := inferInstance
    go_wp2_with fail
    refine (Out_calls zw A9 _ w9 hW9 (by rw [List.length_append]; omega)).mono ?_
    rintro e w10 ⟨A10, n10, c10, rfl, hn, ho, hc, hnew⟩
    have st10 : Step nowhere w9 w10 := ⟨hc.out⟩
    go_wp2_with fail
    go_ret2
    exact ⟨stepN, A10, n10, c10, rfl, by have h9 := hn.out; simpa using h9, ⟨ho.out⟩, ⟨fun ad e => Nat.le_trans n99.out.size (hnew.out ad e)⟩⟩
set_option maxRecDepth 100000 in
theorem EncodeEnv_calls {M A : Option Addr} {nb cb n c : Nat} {m : List UInt8} {L : List MarkR} {w : World} [hM : HR w M (bs m)] [hr : HR w A (cellsOf L)] (hK : ∀ x ∈ L, MarkIn w x) (hm : m.length = nb) (hl : L.length = n) (hmx : n ≤ 9223372036854775807) (hmb : nb ≤ 9223372036854775807) :
    Calls Try.prog 26 #[.agg #[.slice M nb cb, .slice A n c]] w (EncPost (envOk m (L.map MarkR.m)) (envE m (L.map MarkR.m)) w) := by
  have HK := Lib.hid hK
  clear hK
  rw [envE, List.length_map, hl]
  unfold EncPost
  rcases hb : envOk m (L.map MarkR.m) with _ | _
  all_goals
    go_enter Try.func26, Try.ntmps26
    go_wp2_with (first | ((with_reducible apply (wpl_box_agg (dst := some 1))); (exact rfl); intro zt wzt _ _ _) | ((with_reducible apply (wpl_box_int (dst := some 1))); (exact rfl); intro zt wzt _ _ _) | ((with_reducible apply (wpl_box_slice (dst := some 1))); (exact rfl); intro zt wzt _ _ _) | ((with_reducible apply (wpl_box_str (dst := some 1))); (exact rfl); intro zt wzt _ _ _) | ((with_reducible apply (wpl_box_bool (dst := some 1))); (exact rfl); intro zt wzt _ _ _) | ((with_reducible apply (wpl_box_ptr (dst := some 1))); (exact rfl); intro zt wzt _ _ _) | ((with_reducible apply wpl_box_agg); (exact rfl); intro z wz _ _ _) | ((with_reducible apply wpl_box_int); (exact rfl); intro z wz _ _ _) | ((with_reducible apply wpl_box_slice); (exact rfl); intro z wz _ _ _) | ((with_reducible apply wpl_box_str); (exact rfl); intro z wz _ _ _) | ((with_reducible apply wpl_box_bool); (exact rfl); intro z wz _ _ _) | ((with_reducible apply wpl_box_ptr); (exact rfl); intro z wz _ _ _) | ((with_reducible apply wpl_loadrow); (exact rfl); infer_instance; infer_instance; (first | (with_reducible assumption) | (with_reducible exact H32.size _) | (with_reducible exact enc_sz _ rfl) | kernel_rfl)) | ((with_reducible apply wpl_loadcellN); (exact rfl); infer_instance; (exact rfl)))
    refine (encEnv_calls (m := m) (L := L) (fun x hx => (HK.out x hx).chg (stepN (w0 := w)).chg (fun _ _ h => h)) hm hl hmx hmb).mono ?_
    rintro e w5 ⟨_, h5⟩
    rw [hb] at h5
  · obtain rfl : e = _ := h5
    go_wp2_with fail
    go_ret2
    exact ⟨stepN, rfl⟩
  · obtain ⟨A1, n1, c1, rfl, hn, hO, hA⟩ := h5
    have HN := Lib.hid hn
    clear hn
    go_wp2_with fail
    go_ret2
    exact ⟨stepN, A1, n1, c1, rfl, by have h9 := HN.out; simpa using h9, hO, NewA.monoS hA⟩
end Go.Proofs.Ythcleccofccbdaa
