/- BpC -/
import Derived.Test.YtegdihpnefoolaaTjBpB
import Derived.Test.YtegdihpnefoolaaTjBkG
import Derived.Test.YtegdihpnefoolaaTjSlY
open Go Go.RowKit
namespace Go.Proofs.Ytegdihpnefoolaa
theorem rel_bank {s : FS} {r : RFS} {N : Nat} (h : Rel s r N) (ok : s.ok N) (hN : 96 ≤ N) (i : Nat) (hi : i < 2) : flatF r (80 + i * 8) (80 + i * 8 + 8) = bankB s i := by
  rw [← bankB_flat ok hN i hi, flatF, show 80 + i * 8 + 8 - (80 + i * 8) = 8 by omega]
  congr 1
  apply List.map_congr_left
  intro j hj
  rw [List.mem_range] at hj
  exact h.page _ (by omega)
theorem rbPages_calls (w : World) : Calls Try.prog 29 #[] w fun e w' => e = .returned (.int .i64 96) ∧ Step nowhere w w' := by
  go_enter Try.func29, Try.ntmps29
  go_wp2_with fail
  go_ret
  exact ⟨rfl, ⟨Chg.refl _ _⟩⟩
set_option maxRecDepth 100000 in
set_option maxHeartbeats 3200000 in
theorem rbBoot_calls {x N : Nat} {T : Nat → Prop} {s : FS} {r : RFS} {w : World} (hX : RF w x T r) (hR : Rel s r N) (ok : s.ok N) :
    Calls Try.prog 35 #[.pointer (some ⟨x, 0, none⟩)] w (BootQ (bootS N s) w) := by
  have HX := Lib.hid hX
  have HRL := Lib.hid hR
  have HOK := Lib.hid ok
  have hN9 := ok.most
  obtain ⟨B, hB⟩ : ∃ B, B = bootS N s := ⟨_, rfl⟩
  have hB2 := hB
  unfold bootS at hB2
  have HB2 := Lib.hid hB2
  rw [← hB]
  obtain ⟨A, kk, c, rows, h1, h2, h3, h4, h5⟩ := hX
  have hbx : HB w x 63 _ := ⟨h1.head⟩
  have hl : r.pgs.length = kk := by rw [← h2, List.length_map, h1.num]
  have hkN : kk = N := by rw [← hl, hR.num]
  subst hkN
  have ht : HR w A (cellsOf rows) := ⟨h1.tab.rd⟩
  have hlen : (cellsOf rows).length = kk := by rw [cellsOf_rows, rowsV, List.length_map, h1.num]
  have hpg : ∀ j, j < kk → (cellsOf rows)[j]? = some (.slice (gt rows j).A 64 (gt rows j).c) ∧ (r.pageN j).length = 64 ∧ Rd w (gt rows j).A (bs (r.pageN j)) := fun j hj => by
    have hjr : j < rows.length := by rw [h1.num]; exact hj
    have hm := gt_mem rows j hjr
    have hP := row_page h2 j hjr
    exact ⟨tab_get j hjr h1.len, by rw [← hP]; exact h1.len _ hm, by rw [← hP]; exact (h1.each _ hm).rd⟩
  have HPG := Lib.hid hpg
  have HLEN := Lib.hid hlen
  have kb0 : ∀ w, (Instr.build 57 #[]).run Try.prog w = .ok (.agg (bkL 0 0 zeroH 0 ⟨#[]⟩ none 0 0).toArray) w := fun _ => by kernel_rfl
  have hsz0 := bkL_len 0 0 zeroH 0 ⟨#[]⟩ none 0 0
  have hon0 := bkL_one 0 0 zeroH 0 ⟨#[]⟩ none 0 0
  clear hB hB2 hR ok h1 h2 h3 h4 h5 hl hpg hlen
  go_enter Try.func35, Try.ntmps35
  go_wp2_with (first | ((with_reducible apply (wpl_alloc (dst := some 2))); intro zo wzo _ _ _) | ((with_reducible apply wpl_alloc); intro z wz _ _ _) | ((with_reducible apply wpl_loadrow); (exact rfl); infer_instance; infer_instance; (first | (with_reducible assumption) | (with_reducible exact H32.size _) | kernel_rfl)) | ((with_reducible apply wpl_loadcellN); (exact rfl); infer_instance; (exact rfl)) | ((with_reducible apply wpl_storerow); (exact rfl); (exact rfl); infer_instance; infer_instance; (first | (with_reducible assumption) | (with_reducible exact H32.size _) | kernel_rfl); (first | (with_reducible assumption) | (with_reducible exact H32.size _) | kernel_rfl); (first | (with_reducible exact u8s_one _) | (with_reducible assumption) | kernel_rfl); intro ws _ _) | ((with_reducible apply wpl_storecell); (exact rfl); (exact rfl); infer_instance; (exact rfl); (first | (with_reducible assumption) | omega | (focus (simp; done)) | (focus (simp; omega; done)) | decide); intro ws _ _))
  have hbo0 : HB wzo zo 57 (bkL 0 0 zeroH 0 ⟨#[]⟩ none 0 0).toArray := inferInstance
  have nz : Nw w wzo := inferInstance
  have hbx0 : HB wzo x 63 _ := ⟨hbx.out.chg nz.out (fun h => h)⟩
  refine wp_region_N (nowhere) (by kernel_rfl) (fun wd _ _ => ?_)
  refine' takeH (i := 0) (v := _) rfl (by kernel_rfl) (by kernel_rfl) (by kernel_rfl) (fun _ _ _ h => h) (yields_of (by rfl) (fun w' _ => ?_)) inferInstance ?_
  rotate_left
  · (go_simp; try with_reducible rfl)
  try simp only [Act.put, sA]; try simp only [sB, sC]
  refine' takeH (i := 1) (v := _) rfl (by kernel_rfl) (by kernel_rfl) (by kernel_rfl) (fun _ _ _ h => h) (yields_of (by rfl) (fun w' _ => ?_)) inferInstance ?_
  rotate_left
  · (go_simp; try with_reducible rfl)
  try simp only [Act.put, sA]; try simp only [sB, sC]
  refine' takeH (i := 2) (v := _) rfl (by kernel_rfl) (by kernel_rfl) (by kernel_rfl) (fun _ _ _ h => h) (yields_of (by rfl) (fun w' _ => ?_)) inferInstance ?_
  rotate_left
  · (go_simp; try with_reducible rfl)
  try simp only [Act.put, sA]; try simp only [sB, sC]
  refine' takeH (i := 3) (v := _) rfl (by kernel_rfl) (by kernel_rfl) (by kernel_rfl) (fun _ _ _ h => h) (yields_of (by rfl) (fun w' _ => ?_)) inferInstance ?_
  rotate_left
  · (first | ((with_reducible apply ev_loadrow); (exact rfl); infer_instance; infer_instance; (first | (with_reducible assumption) | (with_reducible exact H32.size _) | kernel_rfl)) | ((with_reducible apply (ev_loadhash (t := 52))); (exact rfl); infer_instance; infer_instance; (first | (with_reducible assumption) | omega)) | ((with_reducible apply ev_loadcellN); (exact rfl); infer_instance; infer_instance; (exact rfl)) | ((with_reducible apply (ev_loadint (t := 3))); (exact rfl); infer_instance; infer_instance; (first | (with_reducible assumption) | omega)) | ((with_reducible apply (ev_loadbyte (t := 5))); (exact rfl); infer_instance; infer_instance; (first | (with_reducible assumption) | omega)) | (go_simp; try with_reducible rfl))
  try simp only [Act.put, sA]; try simp only [sB, sC]
  refine' takeH (i := 4) (v := _) rfl (by kernel_rfl) (by kernel_rfl) (by kernel_rfl) (fun _ _ _ h => h) (yields_of (by rfl) (fun w' _ => ?_)) inferInstance ?_
  rotate_left
  · (go_simp; try with_reducible rfl)
  try simp only [Act.put, sA]; try simp only [sB, sC]
  refine goH (i := 5) (by kernel_rfl) rfl (fun K_ hK_ => ?_)
  go_simp
  refine (rbPages_calls wd).mono ?_
  rintro e w1 ⟨rfl, s1⟩
  refine hK_.out _ _ inferInstance (fun _ => ?_)
  clear hK_ K_
  try simp only [Act.put, sA]; try simp only [sB, sC]
  refine' takeH (i := 6) (v := _) rfl (by kernel_rfl) (by kernel_rfl) (by kernel_rfl) (fun _ _ _ h => h) (yields_of (by rfl) (fun w' _ => ?_)) inferInstance ?_
  rotate_left
  · (go_simp; try with_reducible rfl)
  try simp only [Act.put, sA]; try simp only [sB, sC]
  refine wpAnyH_done (by kernel_rfl) ?_ _
  have hbo1 : HB w1 zo 57 (bkL 0 0 zeroH 0 ⟨#[]⟩ none 0 0).toArray := inferInstance
  have n1 : Nw w w1 := inferInstance
  have hbx1 : HB w1 x 63 _ := ⟨hbx.out.chg n1.out (fun h => h)⟩
  by_cases hN : kk < 96
  · have hNI : (kk : Int) < 96 := by omega
    have HBE : Hid (B = (bkZero, [], 1)) := Lib.hid (by rw [HB2.out, if_pos hN])
    clear HB2
    go_wp2_with (first | ((with_reducible apply wpl_build); (exact kb0 _)) | ((with_reducible apply wpl_storerow); (exact rfl); (exact rfl); infer_instance; infer_instance; (exact hsz0); (exact hsz0); (exact hon0); intro ws _ hbs) | ((with_reducible apply wpl_alloc); intro z wz _ _ _) | ((with_reducible apply wpl_loadrow); (exact rfl); infer_instance; infer_instance; (first | (with_reducible assumption) | (with_reducible exact H32.size _) | kernel_rfl)) | ((with_reducible apply wpl_loadcellN); (exact rfl); infer_instance; (exact rfl)) | ((with_reducible apply wpl_storerow); (exact rfl); (exact rfl); infer_instance; infer_instance; (first | (with_reducible assumption) | (with_reducible exact H32.size _) | kernel_rfl); (first | (with_reducible assumption) | (with_reducible exact H32.size _) | kernel_rfl); (first | (with_reducible exact u8s_one _) | (with_reducible assumption) | kernel_rfl); intro ws _ _) | ((with_reducible apply wpl_storecell); (exact rfl); (exact rfl); infer_instance; (exact rfl); (first | (with_reducible assumption) | omega | (focus (simp; done)) | (focus (simp; omega; done)) | decide); intro ws _ _))
    refine ret_rowTT rfl rfl rfl rfl hbs (n := 37) hsz0 rfl ?_
    show BootQ B w _ _
    rw [HBE.out]
    exact bootQ_none rfl stepN
  · have hNI : ¬ (kk : Int) < 96 := by omega
    have hN80 : ¬ kk < 80 := by omega
    have HB3 := Lib.hid (HB2.out.trans (if_neg hN))
    clear HB2
    obtain ⟨rb, hrb⟩ : ∃ rb, rb = (bestS s).2.2 := ⟨_, rfl⟩
    obtain ⟨rn, hrn⟩ : ∃ rn, rn = (bestS s).2.1 := ⟨_, rfl⟩
    have hRl : rb.length ≤ 2500 := by rw [hrb]; exact bestK_len s 2
    have hld : loadN kk s = (rb, rn, if rn = 0 then 9 else 0) := by rw [hrb, hrn, loadN, if_neg hN80]
    rw [← hrb, ← hrn] at HB3
    have HLD := Lib.hid hld
    clear hrb hrn hld
    by_cases h0 : rn = 0
    · have HBE : Hid (B = (bkZero, [], 9)) := Lib.hid (by rw [HB3.out]; exact if_pos h0)
      have HLD2 : Hid (loadN kk s = (rb, 0, 9)) := Lib.hid (by rw [HLD.out, h0, if_pos rfl])
      clear HLD HB3 h0
      go_wp2_with (first | ((with_reducible apply wpl_alloc); intro z wz _ _ _) | ((with_reducible apply wpl_loadrow); (exact rfl); infer_instance; infer_instance; (first | (with_reducible assumption) | (with_reducible exact H32.size _) | kernel_rfl)) | ((with_reducible apply wpl_loadcellN); (exact rfl); infer_instance; (exact rfl)) | ((with_reducible apply wpl_storerow); (exact rfl); (exact rfl); infer_instance; infer_instance; (first | (with_reducible assumption) | (with_reducible exact H32.size _) | kernel_rfl); (first | (with_reducible assumption) | (with_reducible exact H32.size _) | kernel_rfl); (first | (with_reducible exact u8s_one _) | (with_reducible assumption) | kernel_rfl); intro ws _ _) | ((with_reducible apply wpl_storecell); (exact rfl); (exact rfl); infer_instance; (exact rfl); (first | (with_reducible assumption) | omega | (focus (simp; done)) | (focus (simp; omega; done)) | decide); intro ws _ _))
      refine (rLoad_calls (HX.out.calm (stepN (w0 := w)).chg) HRL.out HOK.out).mono ?_
      rw [HLD2.out]
      unfold LoadQ
      rintro e w2 ⟨B2, m2, d2, rfl, hm2, hd2, hB2, hnB2, _⟩
      go_wp2_with (first | ((with_reducible apply wpl_build); (exact kb0 _)) | ((with_reducible apply wpl_storerow); (exact rfl); (exact rfl); infer_instance; infer_instance; (exact hsz0); (exact hsz0); (exact hon0); intro ws _ hbs) | ((with_reducible apply wpl_alloc); intro z wz _ _ _) | ((with_reducible apply wpl_loadrow); (exact rfl); infer_instance; infer_instance; (first | (with_reducible assumption) | (with_reducible exact H32.size _) | kernel_rfl)) | ((with_reducible apply wpl_loadcellN); (exact rfl); infer_instance; (exact rfl)) | ((with_reducible apply wpl_storerow); (exact rfl); (exact rfl); infer_instance; infer_instance; (first | (with_reducible assumption) | (with_reducible exact H32.size _) | kernel_rfl); (first | (with_reducible assumption) | (with_reducible exact H32.size _) | kernel_rfl); (first | (with_reducible exact u8s_one _) | (with_reducible assumption) | kernel_rfl); intro ws _ _) | ((with_reducible apply wpl_storecell); (exact rfl); (exact rfl); infer_instance; (exact rfl); (first | (with_reducible assumption) | omega | (focus (simp; done)) | (focus (simp; omega; done)) | decide); intro ws _ _))
      refine ret_rowTT rfl rfl rfl rfl hbs (n := 37) hsz0 rfl ?_
      show BootQ B w _ _
      rw [HBE.out]
      exact bootQ_none rfl stepN
    · have HB4 := Lib.hid (HB3.out.trans (if_neg h0))
      have HLD2 : Hid (loadN kk s = (rb, rn, 0)) := Lib.hid (by rw [HLD.out, if_neg h0])
      obtain ⟨K, hK⟩ : ∃ K, K = dOk rb := ⟨_, rfl⟩
      obtain ⟨D, hD⟩ : ∃ D, D = decS rb := ⟨_, rfl⟩
      have hK2 : K = true → D.bank < 2 ∧ D.size ≤ 512 := fun h => by
        rw [hK, dOk, ← hD] at h
        simp only [Bool.and_eq_true, decide_eq_true_eq] at h
        exact ⟨h.1.2, h.2⟩
      rw [← hK, ← hD] at HB4
      have HK := Lib.hid hK
      have HD := Lib.hid hD
      have HK2 := Lib.hid hK2
      clear HLD HB3 h0 hK hD hK2
      go_wp2_with (first | ((with_reducible apply wpl_alloc); intro z wz _ _ _) | ((with_reducible apply wpl_loadrow); (exact rfl); infer_instance; infer_instance; (first | (with_reducible assumption) | (with_reducible exact H32.size _) | kernel_rfl)) | ((with_reducible apply wpl_loadcellN); (exact rfl); infer_instance; (exact rfl)) | ((with_reducible apply wpl_storerow); (exact rfl); (exact rfl); infer_instance; infer_instance; (first | (with_reducible assumption) | (with_reducible exact H32.size _) | kernel_rfl); (first | (with_reducible assumption) | (with_reducible exact H32.size _) | kernel_rfl); (first | (with_reducible exact u8s_one _) | (with_reducible assumption) | kernel_rfl); intro ws _ _) | ((with_reducible apply wpl_storecell); (exact rfl); (exact rfl); infer_instance; (exact rfl); (first | (with_reducible assumption) | omega | (focus (simp; done)) | (focus (simp; omega; done)) | decide); intro ws _ _))
      refine (rLoad_calls (HX.out.calm (stepN (w0 := w)).chg) HRL.out HOK.out).mono ?_
      rw [HLD2.out]
      unfold LoadQ
      rintro e w2 ⟨B2, m2, d2, rfl, hm2, hd2, hB2, hnB2, _⟩
      have hm2' : rb.length = m2 := hm2
      have hr2 : HR w2 B2 (bs rb) := hB2
      have HM2 := Lib.hid hm2'
      have hbo2 : HB w2 zo 57 (bkL 0 0 zeroH 0 ⟨#[]⟩ none 0 0).toArray := inferInstance
      clear hm2 hm2'
      go_wp2_with (first | ((with_reducible apply wpl_alloc); intro z wz _ _ _) | ((with_reducible apply wpl_loadrow); (exact rfl); infer_instance; infer_instance; (first | (with_reducible assumption) | (with_reducible exact H32.size _) | kernel_rfl)) | ((with_reducible apply wpl_loadcellN); (exact rfl); infer_instance; (exact rfl)) | ((with_reducible apply wpl_storerow); (exact rfl); (exact rfl); infer_instance; infer_instance; (first | (with_reducible assumption) | (with_reducible exact H32.size _) | kernel_rfl); (first | (with_reducible assumption) | (with_reducible exact H32.size _) | kernel_rfl); (first | (with_reducible exact u8s_one _) | (with_reducible assumption) | kernel_rfl); intro ws _ _) | ((with_reducible apply wpl_storecell); (exact rfl); (exact rfl); infer_instance; (exact rfl); (first | (with_reducible assumption) | omega | (focus (simp; done)) | (focus (simp; omega; done)) | decide); intro ws _ _))
      refine (rbRead_calls (b := rb) HM2.out hd2 (by have := HM2.out; omega)).mono ?_
      rw [← HK.out, ← HD.out]
      rintro e w3 ⟨M, m, d, rfl, hm3, hmd, hM3, hnM, _⟩
      have HM3 := Lib.hid hm3
      have hsz := bkL_len D.bank D.size D.sum D.cnt (strL D.name) M m d
      have hone := bkL_one D.bank D.size D.sum D.cnt (strL D.name) M m d
      have hbo3 : HB w3 zo 57 (bkL 0 0 zeroH 0 ⟨#[]⟩ none 0 0).toArray := inferInstance
      have hnMw : NewA w M := NewA.monoS hnM
      have n3 : Nw w w3 := inferInstance
      have hzt3 := hbo3.out.lt
      clear hm3
      cases K
      case false =>
        have HBE : Hid (B = (bkZero, [], 2)) := Lib.hid (by rw [HB4.out]; rfl)
        clear HB4 HK2
        go_wp2_with (first | ((with_reducible apply wpl_storerow); (exact rfl); (exact rfl); infer_instance; infer_instance; (exact hsz); (exact hsz0); (exact hone); intro wt _ hbt) | ((with_reducible apply wpl_build); (exact kb0 _)) | ((with_reducible apply wpl_storerow); (exact rfl); (exact rfl); infer_instance; infer_instance; (exact hsz0); (exact hsz0); (exact hon0); intro ws _ hbs) | ((with_reducible apply (wpl_alloc (dst := some 8))); intro zt wzt _ _ _) | ((with_reducible apply wpl_alloc); intro z wz _ _ _) | ((with_reducible apply wpl_loadrow); (exact rfl); infer_instance; infer_instance; (first | (with_reducible assumption) | (with_reducible exact H32.size _) | kernel_rfl)) | ((with_reducible apply wpl_loadcellN); (exact rfl); infer_instance; (exact rfl)) | ((with_reducible apply wpl_storerow); (exact rfl); (exact rfl); infer_instance; infer_instance; (first | (with_reducible assumption) | (with_reducible exact H32.size _) | kernel_rfl); (first | (with_reducible assumption) | (with_reducible exact H32.size _) | kernel_rfl); (first | (with_reducible exact u8s_one _) | (with_reducible assumption) | kernel_rfl); intro ws _ _) | ((with_reducible apply wpl_storecell); (exact rfl); (exact rfl); infer_instance; (exact rfl); (first | (with_reducible assumption) | omega | (focus (simp; done)) | (focus (simp; omega; done)) | decide); intro ws _ _))
        refine ret_rowTT rfl rfl rfl rfl hbs (n := 37) hsz0 rfl ?_
        show BootQ B w _ _
        rw [HBE.out]
        exact bootQ_none rfl stepN
      case true =>
        obtain ⟨hbk, hsl⟩ := HK2.out rfl
        obtain ⟨img, himg⟩ : ∃ img, img = (bankB s D.bank).take D.size := ⟨_, rfl⟩
        obtain ⟨S, hS⟩ : ∃ S : H32, S.l = sha img := ⟨⟨sha img, sha_len _⟩, rfl⟩
        have hB5 : B = if S = D.sum then (D, img, 0) else (bkZero, [], 8) := by
          rw [HB4.out, if_pos rfl, ← himg]
          by_cases h : sha img = D.sum.l
          · rw [if_pos h, if_pos (H32.ext' (hS.trans h))]
          · rw [if_neg h, if_neg (fun e => h (by rw [← hS, e]))]
        have HIM := Lib.hid himg
        have HS := Lib.hid hS
        have HB5 := Lib.hid hB5
        obtain ⟨q, hq⟩ : ∃ q : Bool, q = !decide (S = D.sum) := ⟨_, rfl⟩
        have hneq : ∀ w, (binOp .neq 52 (.agg (u8s S.l)) (.agg (u8s D.sum.l))).run Try.prog w = .ok (.bool q) w := fun w => by rw [neqHB, hq]
        have hB6 : B = if q = false then (D, img, 0) else (bkZero, [], 8) := by
          rw [HB5.out, hq]
          by_cases h : S = D.sum
          · rw [if_pos h, if_pos (by simp [h])]
          · rw [if_neg h, if_neg (by simp [h])]
        have HB6 := Lib.hid hB6
        have hbl := bankB_len HOK.out (by omega) D.bank hbk
        have hil : img.length = D.size := by rw [himg, List.length_take, hbl]; omega
        have HIL := Lib.hid hil
        have HFL := Lib.hid (rel_bank HRL.out HOK.out (by omega) D.bank hbk)
        clear HB4 HK2 himg hS hB5 hq hB6 HB5 hbl hil
        go_wp2_with (first | ((with_reducible apply wpl_storerow); (exact rfl); (exact rfl); infer_instance; infer_instance; (exact hsz); (exact hsz0); (exact hone); intro wt _ hbt) | ((with_reducible apply (wpl_loadcell (k := 0))); (exact rfl); (exact hbt); (exact bk_get0 _ _ _ _ _ _ _ _)) | ((with_reducible apply (wpl_alloc (dst := some 8))); intro zt wzt _ _ _) | ((with_reducible apply wpl_alloc); intro z wz _ _ _) | ((with_reducible apply wpl_loadrow); (exact rfl); infer_instance; infer_instance; (first | (with_reducible assumption) | (with_reducible exact H32.size _) | kernel_rfl)) | ((with_reducible apply wpl_loadcellN); (exact rfl); infer_instance; (exact rfl)) | ((with_reducible apply wpl_storerow); (exact rfl); (exact rfl); infer_instance; infer_instance; (first | (with_reducible assumption) | (with_reducible exact H32.size _) | kernel_rfl); (first | (with_reducible assumption) | (with_reducible exact H32.size _) | kernel_rfl); (first | (with_reducible exact u8s_one _) | (with_reducible assumption) | kernel_rfl); intro ws _ _) | ((with_reducible apply wpl_storecell); (exact rfl); (exact rfl); infer_instance; (exact rfl); (first | (with_reducible assumption) | omega | (focus (simp; done)) | (focus (simp; omega; done)) | decide); intro ws _ _))
        have nt : Nw w wt := inferInstance
        have hbot : HB wt zo 57 (bkL 0 0 zeroH 0 ⟨#[]⟩ none 0 0).toArray := inferInstance
        have hMt : HR wt M (bs D.mind) := inferInstance
        have hbxt : HB wt x 63 _ := ⟨hbx.out.chg nt.out (fun h => h)⟩
        have htt : HR wt A (cellsOf rows) := ⟨ht.out.later nt.out⟩
        have hbkI : (D.bank : Int) < 2 := by omega
        obtain ⟨o, ho⟩ : ∃ o, o = 80 + D.bank * 8 := ⟨_, rfl⟩
        rw [← ho] at HFL
        have ho96 : o + 8 ≤ kk := by omega
        go_loopw [10, 12] (fun xv iv wr => ∃ (i nn : Nat) (L : Option Addr) (cL : Nat) (b : List UInt8), o ≤ i ∧ i ≤ o + 8 ∧ iv = .int .i64 (i : Int) ∧ xv = .slice L nn cL ∧ Step nowhere wt wr ∧ HO wr 5 1 L nn cL (bs b) ∧ NewA wt L ∧ Hid (nn = (i - o) * 64) ∧ Hid (b = flatF r o i) ∧ Hid (b.length = nn) ∧ nn ≤ cL) (fun _ iv _ => o + 8 - (intOf iv).toNat)
        case atStart => exact ⟨o, 0, none, 0, [], Nat.le_refl _, by omega, by go_num, rfl, stepN, ⟨Own.nil _ _ _⟩, ⟨fun ad e => by cases e⟩, Lib.hid (by omega), Lib.hid (flatF_nil r o).symm, Lib.hid rfl, Nat.le_refl _⟩
        case round =>
          obtain ⟨i, nn, L, cL, b, hoi, hi, rfl, rfl, _, hL, hnL, HNN, HBF, HBL, hcL⟩ := hrel
          have hbor : HB wr zo 57 (bkL 0 0 zeroH 0 ⟨#[]⟩ none 0 0).toArray := inferInstance
          have hbtr : HB wr zt 57 (bkL D.bank D.size D.sum D.cnt (strL D.name) M m d).toArray := inferInstance
          have hMr : HR wr M (bs D.mind) := inferInstance
          have nr : Nw w wr := inferInstance
          by_cases hlt2 : i < o + 8
          · have hltI : (i : Int) < 80 + (D.bank : Int) * 8 + 8 := by omega
            have hj : i < kk := by omega
            obtain ⟨hvt, hlenp, hrd⟩ := HPG.out i hj
            have hjl : i < (cellsOf rows).length := by rw [HLEN.out]; exact hj
            have hjk : 0 < (cellsOf rows).length := by omega
            have hn1 : nn + 64 ≤ 100000000000 := by have := HNN.out; omega
            have hpg : HR wr (gt rows i).A (bs (r.pageN i)) := ⟨hrd.later nr.out⟩
            obtain ⟨R, hR⟩ : ∃ R, R = (gt rows i).A := ⟨_, rfl⟩
            obtain ⟨rc, hrc⟩ : ∃ R, R = (gt rows i).c := ⟨_, rfl⟩
            obtain ⟨pg, hpgE⟩ : ∃ R, R = r.pageN i := ⟨_, rfl⟩
            rw [← hR, ← hrc] at hvt
            rw [← hR, ← hpgE] at hpg
            rw [← hpgE] at hlenp
            have HPE := Lib.hid hpgE
            clear hrd hR hrc hpgE
            go_wp2_with (first | ((with_reducible apply (wpl_index1 (k := i))); (exact rfl); (exact rfl); infer_instance; infer_instance; (exact hjk); (exact hj)) | ((with_reducible apply wpl_load1); (exact rfl); infer_instance; infer_instance; (exact hvt)) | ((with_reducible apply wpl_appendB); (exact rfl); (exact rfl); infer_instance; infer_instance; infer_instance; (exact hlenp); (exact hn1); intro A3 c3 wa _ hO3 hG3 hcap3) | ((with_reducible apply wpl_alloc); intro z wz _ _ _) | ((with_reducible apply wpl_loadrow); (exact rfl); infer_instance; infer_instance; (first | (with_reducible assumption) | (with_reducible exact H32.size _) | kernel_rfl)) | ((with_reducible apply wpl_loadcellN); (exact rfl); infer_instance; (exact rfl)) | ((with_reducible apply wpl_storerow); (exact rfl); (exact rfl); infer_instance; infer_instance; (first | (with_reducible assumption) | (with_reducible exact H32.size _) | kernel_rfl); (first | (with_reducible assumption) | (with_reducible exact H32.size _) | kernel_rfl); (first | (with_reducible exact u8s_one _) | (with_reducible assumption) | kernel_rfl); intro ws _ _) | ((with_reducible apply wpl_storecell); (exact rfl); (exact rfl); infer_instance; (exact rfl); (first | (with_reducible assumption) | omega | (focus (simp; done)) | (focus (simp; omega; done)) | decide); intro ws _ _))
            exact ⟨⟨i + 1, nn + 64, A3, c3, _, by omega, by omega, by go_num, rfl, stepN, hO3, inferInstance, Lib.hid (by have := HNN.out; omega), Lib.hid (by rw [HBF.out, HPE.out, flatF_next r hoi]), Lib.hid (by rw [List.length_append, HBL.out, hlenp]), hcap3⟩, by simp [intOf]; omega⟩
          · have hltI : ¬ (i : Int) < 80 + (D.bank : Int) * 8 + 8 := by omega
            obtain rfl : i = o + 8 := by omega
            have hnn : nn = 512 := by have := HNN.out; omega
            have himgE : b.take D.size = img := by rw [HBF.out, HFL.out, ← HIM.out]
            have hcap9 : D.size ≤ cL := by omega
            have hI0 : HR wr L (bs img) := by
              have h0 : HR wr L (bs b) := ⟨hL.out.rd⟩
              have h := HR.takeB h0 D.size
              rwa [himgE] at h
            have hnIw : NewA w L := NewA.monoS hnL
            have oMo : OffR (only zo) M (bs D.mind) := ⟨fun _ ad e h => by have h' : ad.block = zo := h; have h1 := hnM.out ad e; have h2 := hbo2.out.lt; omega⟩
            have oIo : OffR (only zo) L (bs img) := ⟨fun _ ad e h => by have h' : ad.block = zo := h; have h1 := hnL.out ad e; have h2 := hbot.out.lt; omega⟩
            clear himgE hL
            go_wp2_with (first | ((with_reducible apply (wpl_loadcell (k := 1))); (exact rfl); (exact hbtr); (exact bk_get1 _ _ _ _ _ _ _ _)) | ((with_reducible apply (wpl_sl_h (m := D.size))); (exact rfl); (exact rfl); infer_instance; (exact hcap9)) | ((with_reducible apply wpl_alloc); intro z wz _ _ _) | ((with_reducible apply wpl_loadrow); (exact rfl); infer_instance; infer_instance; (first | (with_reducible assumption) | (with_reducible exact H32.size _) | kernel_rfl)) | ((with_reducible apply wpl_loadcellN); (exact rfl); infer_instance; (exact rfl)) | ((with_reducible apply wpl_storerow); (exact rfl); (exact rfl); infer_instance; infer_instance; (first | (with_reducible assumption) | (with_reducible exact H32.size _) | kernel_rfl); (first | (with_reducible assumption) | (with_reducible exact H32.size _) | kernel_rfl); (first | (with_reducible exact u8s_one _) | (with_reducible assumption) | kernel_rfl); intro ws _ _) | ((with_reducible apply wpl_storecell); (exact rfl); (exact rfl); infer_instance; (exact rfl); (first | (with_reducible assumption) | omega | (focus (simp; done)) | (focus (simp; omega; done)) | decide); intro ws _ _))
            refine wp_region_N (nowhere) (by kernel_rfl) (fun wd _ _ => ?_)
            refine' takeH (i := 0) (v := _) rfl (by kernel_rfl) (by kernel_rfl) (by kernel_rfl) (fun _ _ _ h => h) (yields_of (by rfl) (fun w' _ => ?_)) inferInstance ?_
            rotate_left
            · (go_simp; try with_reducible rfl)
            try simp only [Act.put, sA]; try simp only [sB, sC]
            refine' takeH (i := 2) (v := _) rfl (by kernel_rfl) (by kernel_rfl) (by kernel_rfl) (fun _ _ _ h => h) (yields_of (by rfl) (fun w' _ => ?_)) inferInstance ?_
            rotate_left
            · (go_simp; try with_reducible rfl)
            try simp only [Act.put, sA]; try simp only [sB, sC]
            refine' takeH (i := 3) (v := _) rfl (by kernel_rfl) (by kernel_rfl) (by kernel_rfl) (fun _ _ _ h => h) (yields_of (by rfl) (fun w' _ => ?_)) inferInstance ?_
            rotate_left
            · (first | ((with_reducible apply ev_loadpartB); (exact rfl); infer_instance; infer_instance; (exact bk_sum _ _ _ _ _ _ _ _)))
            try simp only [Act.put, sA]; try simp only [sB, sC]
            refine goH (i := 1) (by kernel_rfl) rfl (fun K_ hK_ => ?_)
            go_simp
            refine (dRefSum_calls L D.size cL img wd (inferInstance : HR wd L (bs img)).out HIL.out (by omega)).mono ?_
            rw [← HS.out]
            rintro e w6 ⟨rfl, hc6⟩
            have s6 : Step nowhere wd w6 := ⟨hc6.out⟩
            clear hc6
            refine hK_.out _ _ inferInstance (fun _ => ?_)
            clear hK_ K_
            try simp only [Act.put, sA]; try simp only [sB, sC]
            refine' takeH (i := 4) (v := _) rfl (by kernel_rfl) (by kernel_rfl) (by kernel_rfl) (fun _ _ _ h => h) (yields_of (by rfl) (fun w' _ => ?_)) inferInstance ?_
            rotate_left
            · (go_simp; try with_reducible rfl)
            try simp only [Act.put, sA]; try simp only [sB, sC]
            refine wpAnyH_done (by kernel_rfl) ?_ _
            have htd6 : HB w6 zt 57 (bkL D.bank D.size D.sum D.cnt (strL D.name) M m d).toArray := inferInstance
            have hbo6 : HB w6 zo 57 (bkL 0 0 zeroH 0 ⟨#[]⟩ none 0 0).toArray := inferInstance
            have hI6 : HR w6 L (bs img) := inferInstance
            have hM6 : HR w6 M (bs D.mind) := inferInstance
            cases q
            case true =>
              have HBE : Hid (B = (bkZero, [], 8)) := Lib.hid (by rw [HB6.out]; rfl)
              clear HB6
              go_wp2_with (first | ((with_reducible apply wpl_build); (exact kb0 _)) | ((with_reducible apply wpl_storerow); (exact rfl); (exact rfl); infer_instance; infer_instance; (exact hsz0); (exact hsz0); (exact hon0); intro ws _ hbs) | ((with_reducible apply wpl_alloc); intro z wz _ _ _) | ((with_reducible apply wpl_loadrow); (exact rfl); infer_instance; infer_instance; (first | (with_reducible assumption) | (with_reducible exact H32.size _) | kernel_rfl)) | ((with_reducible apply wpl_loadcellN); (exact rfl); infer_instance; (exact rfl)) | ((with_reducible apply wpl_storerow); (exact rfl); (exact rfl); infer_instance; infer_instance; (first | (with_reducible assumption) | (with_reducible exact H32.size _) | kernel_rfl); (first | (with_reducible assumption) | (with_reducible exact H32.size _) | kernel_rfl); (first | (with_reducible exact u8s_one _) | (with_reducible assumption) | kernel_rfl); intro ws _ _) | ((with_reducible apply wpl_storecell); (exact rfl); (exact rfl); infer_instance; (exact rfl); (first | (with_reducible assumption) | omega | (focus (simp; done)) | (focus (simp; omega; done)) | decide); intro ws _ _))
              refine ret_rowTT rfl rfl rfl rfl hbs (n := 37) hsz0 rfl ?_
              show BootQ B w _ _
              rw [HBE.out]
              exact bootQ_none rfl stepN
            case false =>
              have HBE : Hid (B = (D, img, 0)) := Lib.hid (by rw [HB6.out]; rfl)
              clear HB6
              go_wp2_with (first | ((with_reducible apply wpl_loadrow); (exact rfl); (exact htd6); infer_instance; (exact hsz)) | ((with_reducible apply wpl_storerow); (exact rfl); (exact rfl); infer_instance; infer_instance; (exact hsz); (exact hsz0); (exact hone); intro ws _ hbs) | ((with_reducible apply wpl_alloc); intro z wz _ _ _) | ((with_reducible apply wpl_loadrow); (exact rfl); infer_instance; infer_instance; (first | (with_reducible assumption) | (with_reducible exact H32.size _) | kernel_rfl)) | ((with_reducible apply wpl_loadcellN); (exact rfl); infer_instance; (exact rfl)) | ((with_reducible apply wpl_storerow); (exact rfl); (exact rfl); infer_instance; infer_instance; (first | (with_reducible assumption) | (with_reducible exact H32.size _) | kernel_rfl); (first | (with_reducible assumption) | (with_reducible exact H32.size _) | kernel_rfl); (first | (with_reducible exact u8s_one _) | (with_reducible assumption) | kernel_rfl); intro ws _ _) | ((with_reducible apply wpl_storecell); (exact rfl); (exact rfl); infer_instance; (exact rfl); (first | (with_reducible assumption) | omega | (focus (simp; done)) | (focus (simp; omega; done)) | decide); intro ws _ _))
              refine ret_rowTT rfl rfl rfl rfl hbs (n := 37) hsz rfl ?_
              show BootQ B w _ _
              rw [HBE.out]
              exact ⟨M, m, d, L, D.size, cL, rfl, HM3.out, hmd, inferInstance, hnMw, HIL.out, hcap9, inferInstance, hnIw, stepN⟩
end Go.Proofs.Ytegdihpnefoolaa
