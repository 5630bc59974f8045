/- Send. -/
import Derived.Test.YthoipeamdolfgaaBsE
open Go Go.RowKit
namespace Go.Proofs.Ythoipeamdolfgaa
open Hp
set_option maxRecDepth 100000 in
set_option maxHeartbeats 1600000 in
theorem send_calls (id : Int) {A : Option Addr} {n c : Nat} {d : List UInt8} {w : World} {z : Nat} {S : Nat → Prop} {cm : Nat} {fr : List Fr} (h : BS w z S cm fr) (hcm : cm ≤ 1000000) [hd : HR w A (bs d)] (hn : d.length = n) (hlen : fr.length ≤ 1000) (hmax : n ≤ 9223372036854775807) :
    Calls Try.prog 19 #[.pointer (some ⟨z, 0, none⟩), .agg #[.int .i64 id, .slice A n c]] w fun e w' => e = .returned (.int .i64 (sendS fr (id, d)).1) ∧ BTo z S w (sendC fr (id, d) cm) (sendS fr (id, d)).2 w' := by
  unfold sendC
  by_cases c1 : id < 0 ∨ 2047 < id ∨ 8 < n
  · have hs : sendS fr (id, d) = (1, fr) := by unfold sendS; rw [if_pos (by show id < 0 ∨ 2047 < id ∨ 8 < d.length; rw [hn]; exact c1)]
    rw [hs, show (if ((1, fr) : Int × List Fr).1 = 0 then cm + 1 else cm) = cm from rfl]
    have q : (id < 0) ∨ (¬ id < 0 ∧ 2047 < id) ∨ (¬ id < 0 ∧ ¬ 2047 < id ∧ (8 : Int) < n) := by omega
    clear c1 hs
    go_enter Try.func19, Try.ntmps19
    rcases q with q1 | ⟨q1, q2⟩ | ⟨q1, q2, q3⟩
    all_goals
      go_wp2_with (first | go_skip | ((with_reducible apply (wpl_box_agg (dst := some 3))); (exact rfl); intro zf wzf _ _ _) | ((with_reducible apply (wpl_box_int (dst := some 3))); (exact rfl); intro zf wzf _ _ _) | ((with_reducible apply (wpl_box_slice (dst := some 3))); (exact rfl); intro zf wzf _ _ _) | ((with_reducible apply (wpl_box_str (dst := some 3))); (exact rfl); intro zf wzf _ _ _) | ((with_reducible apply (wpl_box_bool (dst := some 3))); (exact rfl); intro zf wzf _ _ _) | ((with_reducible apply (wpl_box_ptr (dst := some 3))); (exact rfl); intro zf wzf _ _ _) | ((with_reducible apply wpl_box_agg); (exact rfl); intro z wz _ _ _) | ((with_reducible apply wpl_box_int); (exact rfl); intro z wz _ _ _) | ((with_reducible apply wpl_box_slice); (exact rfl); intro z wz _ _ _) | ((with_reducible apply wpl_box_str); (exact rfl); intro z wz _ _ _) | ((with_reducible apply wpl_box_bool); (exact rfl); intro z wz _ _ _) | ((with_reducible apply wpl_box_ptr); (exact rfl); intro z wz _ _ _) | ((with_reducible apply (wpl_guard (op := .load _ _))); (exact rfl)) | ((with_reducible apply (wpl_guard (op := .fieldAddr _ _ _))); (exact rfl)) | ((with_reducible apply wpl_loadrow); (exact rfl); (exact inferInstance); (exact inferInstance); (first | (with_reducible assumption) | (with_reducible exact H32.size _) | (with_reducible exact enc_sz _ rfl) | kernel_rfl)) | ((with_reducible apply wpl_loadcellN); (exact rfl); (exact inferInstance); (first | (exact rfl) | (exact tg_hw _) | (exact tg_ctr _) | (exact tg_ecu _) | (exact srch_who) | (exact srch_fd))) | ((with_reducible apply wpl_storerow); (exact rfl); (exact rfl); (exact inferInstance); (exact inferInstance); (first | (with_reducible assumption) | (with_reducible exact H32.size _) | (with_reducible exact enc_sz _ rfl) | kernel_rfl); (first | (with_reducible assumption) | (with_reducible exact H32.size _) | (with_reducible exact enc_sz _ rfl) | kernel_rfl); (first | (with_reducible exact u8s_one _) | (with_reducible assumption) | (with_reducible exact enc_one _) | kernel_rfl); intro ws _ _) | ((with_reducible apply wpl_storecell); (exact rfl); (exact rfl); (exact inferInstance); (exact rfl); (first | (with_reducible assumption) | omega | (focus (simp; done)) | (focus (simp; omega; done)) | decide); intro ws _ _))
      go_ret
      exact ⟨rfl, BTo.quiet h (stepN (w0 := w)).chg⟩
  · have q1 : ¬ id < 0 := by omega
    have q2 : ¬ 2047 < id := by omega
    have q3 : ¬ (8 : Int) < n := by omega
    have hn8 : n ≤ 8 := by omega
    by_cases c2 : 64 ≤ fr.length
    · have hs : sendS fr (id, d) = (12, fr) := by unfold sendS; rw [if_neg (by show ¬ (id < 0 ∨ 2047 < id ∨ 8 < d.length); rw [hn]; exact c1), if_pos c2]
      rw [hs, show (if ((12, fr) : Int × List Fr).1 = 0 then cm + 1 else cm) = cm from rfl]
      have q4 : (64 : Int) ≤ fr.length := by omega
      clear c1 hs c2
      go_enter Try.func19, Try.ntmps19
      go_wp2_with (first | go_skip | ((with_reducible apply (wpl_box_agg (dst := some 3))); (exact rfl); intro zf wzf _ _ _) | ((with_reducible apply (wpl_box_int (dst := some 3))); (exact rfl); intro zf wzf _ _ _) | ((with_reducible apply (wpl_box_slice (dst := some 3))); (exact rfl); intro zf wzf _ _ _) | ((with_reducible apply (wpl_box_str (dst := some 3))); (exact rfl); intro zf wzf _ _ _) | ((with_reducible apply (wpl_box_bool (dst := some 3))); (exact rfl); intro zf wzf _ _ _) | ((with_reducible apply (wpl_box_ptr (dst := some 3))); (exact rfl); intro zf wzf _ _ _) | ((with_reducible apply wpl_box_agg); (exact rfl); intro z wz _ _ _) | ((with_reducible apply wpl_box_int); (exact rfl); intro z wz _ _ _) | ((with_reducible apply wpl_box_slice); (exact rfl); intro z wz _ _ _) | ((with_reducible apply wpl_box_str); (exact rfl); intro z wz _ _ _) | ((with_reducible apply wpl_box_bool); (exact rfl); intro z wz _ _ _) | ((with_reducible apply wpl_box_ptr); (exact rfl); intro z wz _ _ _) | ((with_reducible apply (wpl_guard (op := .load _ _))); (exact rfl)) | ((with_reducible apply (wpl_guard (op := .fieldAddr _ _ _))); (exact rfl)) | ((with_reducible apply wpl_loadrow); (exact rfl); (exact inferInstance); (exact inferInstance); (first | (with_reducible assumption) | (with_reducible exact H32.size _) | (with_reducible exact enc_sz _ rfl) | kernel_rfl)) | ((with_reducible apply wpl_loadcellN); (exact rfl); (exact inferInstance); (first | (exact rfl) | (exact tg_hw _) | (exact tg_ctr _) | (exact tg_ecu _) | (exact srch_who) | (exact srch_fd))) | ((with_reducible apply wpl_storerow); (exact rfl); (exact rfl); (exact inferInstance); (exact inferInstance); (first | (with_reducible assumption) | (with_reducible exact H32.size _) | (with_reducible exact enc_sz _ rfl) | kernel_rfl); (first | (with_reducible assumption) | (with_reducible exact H32.size _) | (with_reducible exact enc_sz _ rfl) | kernel_rfl); (first | (with_reducible exact u8s_one _) | (with_reducible assumption) | (with_reducible exact enc_one _) | kernel_rfl); intro ws _ _) | ((with_reducible apply wpl_storecell); (exact rfl); (exact rfl); (exact inferInstance); (exact rfl); (first | (with_reducible assumption) | omega | (focus (simp; done)) | (focus (simp; omega; done)) | decide); intro ws _ _))
      refine (lenB_calls (h.calm (stepN (w0 := w) (w := wzf)).chg (fun _ _ hk => hk))).mono ?_
      rintro e w5 ⟨rfl, rfl⟩
      go_wp2_with fail
      go_ret
      exact ⟨rfl, BTo.quiet h (stepN (w0 := w)).chg⟩
    · have hs : sendS fr (id, d) = (0, insF fr (id, d)) := by unfold sendS; rw [if_neg (by show ¬ (id < 0 ∨ 2047 < id ∨ 8 < d.length); rw [hn]; exact c1), if_neg c2]
      rw [hs, if_pos rfl]
      have q4 : ¬ (64 : Int) ≤ fr.length := by omega
      clear c1 hs c2
      go_enter Try.func19, Try.ntmps19
      go_wp2_with (first | go_skip | ((with_reducible apply (wpl_box_agg (dst := some 3))); (exact rfl); intro zf wzf _ _ _) | ((with_reducible apply (wpl_box_int (dst := some 3))); (exact rfl); intro zf wzf _ _ _) | ((with_reducible apply (wpl_box_slice (dst := some 3))); (exact rfl); intro zf wzf _ _ _) | ((with_reducible apply (wpl_box_str (dst := some 3))); (exact rfl); intro zf wzf _ _ _) | ((with_reducible apply (wpl_box_bool (dst := some 3))); (exact rfl); intro zf wzf _ _ _) | ((with_reducible apply (wpl_box_ptr (dst := some 3))); (exact rfl); intro zf wzf _ _ _) | ((with_reducible apply wpl_box_agg); (exact rfl); intro z wz _ _ _) | ((with_reducible apply wpl_box_int); (exact rfl); intro z wz _ _ _) | ((with_reducible apply wpl_box_slice); (exact rfl); intro z wz _ _ _) | ((with_reducible apply wpl_box_str); (exact rfl); intro z wz _ _ _) | ((with_reducible apply wpl_box_bool); (exact rfl); intro z wz _ _ _) | ((with_reducible apply wpl_box_ptr); (exact rfl); intro z wz _ _ _) | ((with_reducible apply (wpl_guard (op := .load _ _))); (exact rfl)) | ((with_reducible apply (wpl_guard (op := .fieldAddr _ _ _))); (exact rfl)) | ((with_reducible apply wpl_loadrow); (exact rfl); (exact inferInstance); (exact inferInstance); (first | (with_reducible assumption) | (with_reducible exact H32.size _) | (with_reducible exact enc_sz _ rfl) | kernel_rfl)) | ((with_reducible apply wpl_loadcellN); (exact rfl); (exact inferInstance); (first | (exact rfl) | (exact tg_hw _) | (exact tg_ctr _) | (exact tg_ecu _) | (exact srch_who) | (exact srch_fd))) | ((with_reducible apply wpl_storerow); (exact rfl); (exact rfl); (exact inferInstance); (exact inferInstance); (first | (with_reducible assumption) | (with_reducible exact H32.size _) | (with_reducible exact enc_sz _ rfl) | kernel_rfl); (first | (with_reducible assumption) | (with_reducible exact H32.size _) | (with_reducible exact enc_sz _ rfl) | kernel_rfl); (first | (with_reducible exact u8s_one _) | (with_reducible assumption) | (with_reducible exact enc_one _) | kernel_rfl); intro ws _ _) | ((with_reducible apply wpl_storecell); (exact rfl); (exact rfl); (exact inferInstance); (exact rfl); (first | (with_reducible assumption) | omega | (focus (simp; done)) | (focus (simp; omega; done)) | decide); intro ws _ _))
      have h1 := h.calm (stepN (w0 := w) (w := wzf)).chg (fun _ _ hk => hk)
      have n1 := (stepN (w0 := w) (w := wzf)).chg
      have hdz : HR wzf A (bs d) := inferInstance
      refine (lenB_calls h1).mono ?_
      rintro e w5 ⟨rfl, hw5⟩
      have h2 : BS w5 z S cm fr := hw5 ▸ h1
      have hf5 : HB w5 zf 45 #[.int .i64 id, .slice A n c] := hw5 ▸ inferInstance
      have hd5 : HR w5 A (bs d) := hw5 ▸ hdz
      have n5 : Chg nowhere w w5 := hw5 ▸ n1
      clear hw5
      obtain ⟨q, QA, qc, hb, ho, hA, hm, hq⟩ := h2.mem
      obtain ⟨L, hL⟩ : ∃ L, fr.length = L := ⟨_, rfl⟩
      have hql : q.length = L := hq.len.trans hL
      rw [hL] at hb ho hlen q4
      have hB5 : HB w5 z 86 #[.slice QA L qc, .int .i64 (cm : Int)] := ⟨hb⟩
      have hO5 : HO w5 91 3 QA L qc (cellsOf q) := ⟨ho⟩
      have oz5 : OffB (rowOf QA) z := ⟨fun ⟨ad, e, hk⟩ => (hA ad e).2 hk⟩
      have oa5 : OffA (only z) QA := ⟨fun ad e hk => (hA ad e).2 hk⟩
      have of5 : OffB (rowOf QA) zf := ⟨fun ⟨ad, e, hk⟩ => by
        have hz := (inferInstance : Born w zf).eq
        have h3 := h.low _ (by
          have := (hA ad e).1
          exact this)
        omega⟩
      have hzl := h.low z h.inz
      have oz9 : OffB (only z) zf := ⟨fun e => by
        have hz := (inferInstance : Born w zf).eq
        have h3 : zf = z := e
        omega⟩
      have HL := Lib.hid hL
      rw [hL]
      go_wp2_with fail
      refine wp_region_N ((zr z QA)) (by kernel_rfl) (fun wd _ _ => ?_)
      refine' takeH (i := 0) (v := _) rfl (by kernel_rfl) (by kernel_rfl) (by kernel_rfl) (fun _ _ _ h => h) (yields_of (by rfl) (fun w' _ => ?_)) inferInstance ?_
      rotate_left
      · (go_simp; try with_reducible rfl)
      try simp only [Act.put, List.setIfInBounds_toArray]; try simp only [List.set_cons_succ, List.set_cons_zero]
      refine' takeH (i := 1) (v := _) rfl (by kernel_rfl) (by kernel_rfl) (by kernel_rfl) (fun _ _ _ h => h) (yields_of (by rfl) (fun w' _ => ?_)) inferInstance ?_
      rotate_left
      · (go_simp; try with_reducible rfl)
      try simp only [Act.put, List.setIfInBounds_toArray]; try simp only [List.set_cons_succ, List.set_cons_zero]
      refine' takeH (i := 2) (v := _) rfl (by kernel_rfl) (by kernel_rfl) (by kernel_rfl) (fun _ _ _ h => h) (yields_of (by rfl) (fun w' _ => ?_)) inferInstance ?_
      rotate_left
      · (first | ((with_reducible apply (ev_fieldE (t := 91))); (exact Try.underlying91); (exact rfl); (kernel_rfl); (exact rfl); (exact inferInstance); (exact cells_pos (by decide) (by omega))) | (go_simp; try with_reducible rfl))
      try simp only [Act.put, List.setIfInBounds_toArray]; try simp only [List.set_cons_succ, List.set_cons_zero]
      refine' takeH (i := 3) (v := _) rfl (by kernel_rfl) (by kernel_rfl) (by kernel_rfl) (fun _ _ _ h => h) (yields_of (by rfl) (fun w' _ => ?_)) inferInstance ?_
      rotate_left
      · (go_simp; try with_reducible rfl)
      try simp only [Act.put, List.setIfInBounds_toArray]; try simp only [List.set_cons_succ, List.set_cons_zero]
      refine' takeH (i := 4) (v := _) rfl (by kernel_rfl) (by kernel_rfl) (by kernel_rfl) (fun _ _ _ h => h) (yields_of (by rfl) (fun w' _ => ?_)) inferInstance ?_
      rotate_left
      · (first | ((with_reducible apply ev_loadrow); (exact rfl); (exact inferInstance); (exact inferInstance); (first | (with_reducible assumption) | (with_reducible exact H32.size _) | (with_reducible exact enc_sz _ rfl) | kernel_rfl)) | ((with_reducible apply (ev_loadhash (t := 64))); (exact rfl); (exact inferInstance); (exact inferInstance); (first | (with_reducible assumption) | omega)) | ((with_reducible apply ev_loadcellN); (exact rfl); (exact inferInstance); (exact inferInstance); (first | (exact rfl) | (exact tg_hw _) | (exact tg_ctr _) | (exact tg_ecu _) | (exact srch_who) | (exact srch_fd))) | ((with_reducible apply (ev_loadE (α := BM) (t := 91))); (exact inferInstance); (exact rfl); (exact inferInstance); (exact rfl); (decide); (first | (with_reducible assumption) | omega | (focus (simp; done)) | (focus (simp; omega; done)) | decide)) | ((with_reducible apply (ev_loadF (α := BM))); (exact inferInstance); (exact rfl); (exact inferInstance); (exact rfl); (first | (with_reducible assumption) | omega | (focus (simp; done)) | (focus (simp; omega; done)) | decide); (first | (exact rfl) | (exact tg_hw _) | (exact tg_ctr _) | (exact tg_ecu _) | (exact srch_who) | (exact srch_fd))) | ((with_reducible apply (ev_loadint (t := 3))); (exact rfl); (exact inferInstance); (exact inferInstance); (first | (with_reducible assumption) | omega)) | ((with_reducible apply (ev_loadbyte (t := 5))); (exact rfl); (exact inferInstance); (exact inferInstance); (first | (with_reducible assumption) | omega)) | (go_simp; try with_reducible rfl))
      try simp only [Act.put, List.setIfInBounds_toArray]; try simp only [List.set_cons_succ, List.set_cons_zero]
      refine' takeH (i := 6) (v := _) rfl (by kernel_rfl) (by kernel_rfl) (by kernel_rfl) (fun _ _ _ h => h) (yields_of (by rfl) (fun w' _ => ?_)) inferInstance ?_
      rotate_left
      · (go_simp; try with_reducible rfl)
      try simp only [Act.put, List.setIfInBounds_toArray]; try simp only [List.set_cons_succ, List.set_cons_zero]
      refine' takeH (i := 7) (v := _) rfl (by kernel_rfl) (by kernel_rfl) (by kernel_rfl) (fun _ _ _ h => h) (yields_of (by rfl) (fun w' _ => ?_)) inferInstance ?_
      rotate_left
      · (go_simp; try with_reducible rfl)
      try simp only [Act.put, List.setIfInBounds_toArray]; try simp only [List.set_cons_succ, List.set_cons_zero]
      refine' takeH (i := 8) (v := _) rfl (by kernel_rfl) (by kernel_rfl) (by kernel_rfl) (fun _ _ _ h => h) (yields_of (by rfl) (fun w' _ => ?_)) inferInstance ?_
      rotate_left
      · (first | ((with_reducible apply (ev_fieldE (t := 91))); (exact Try.underlying91); (exact rfl); (kernel_rfl); (exact rfl); (exact inferInstance); (exact cells_pos (by decide) (by omega))) | (go_simp; try with_reducible rfl))
      try simp only [Act.put, List.setIfInBounds_toArray]; try simp only [List.set_cons_succ, List.set_cons_zero]
      refine wpAnyH_ready (rs := [5, 9]) (by kernel_rfl) (by simp) (AllReadyH.cons rfl (fun K_ hK_ => ?br1_5) (AllReadyH.cons rfl (fun K_ hK_ => ?br1_9) AllReadyH.nil))
      case' br1_5 =>
        go_simp
        refine (copied_calls id (A := A) (c := c) hn (by omega)).mono ?_
        rintro e w6 ⟨A', c', rfl, _, _, _⟩
        have hr6 : HR w6 A' (bs d) := inferInstance
        have hN6 : NewA w5 A' := NewA.monoS (w0 := w5) inferInstance
        have hz6 : w5.heap.size ≤ w6.heap.size := (inferInstance : SzLe w5 w6).out
        refine hK_.out _ _ inferInstance (fun _ => ?_)
        clear hK_ K_
        try simp only [Act.put, List.setIfInBounds_toArray]; try simp only [List.set_cons_succ, List.set_cons_zero]
        refine goH (i := 9) (by kernel_rfl) rfl (fun K_ hK_ => ?_)
        rw [if_pos (by kernel_rfl)]
        refine wpr_of_list ?_
        (first | ((with_reducible apply wpl_build); (exact run_wait _ _ _ _ _ _)) | ((with_reducible apply wpl_loadrow); (exact rfl); (exact inferInstance); (exact inferInstance); (first | (with_reducible assumption) | (with_reducible exact H32.size _) | (with_reducible exact enc_sz _ rfl) | kernel_rfl)) | ((with_reducible apply wpl_loadcellN); (exact rfl); (exact inferInstance); (first | (exact rfl) | (exact tg_hw _) | (exact tg_ctr _) | (exact tg_ecu _) | (exact srch_who) | (exact srch_fd))) | ((with_reducible apply (wpl_loadhash (t := 64))); (exact rfl); (exact inferInstance); (exact inferInstance); (first | (with_reducible assumption) | omega)) | ((with_reducible apply (wpl_loadE (α := BM) (t := 91))); (exact inferInstance); (exact rfl); (exact inferInstance); (exact rfl); (decide); (first | (with_reducible assumption) | omega | (focus (simp; done)) | (focus (simp; omega; done)) | decide)) | ((with_reducible apply (wpl_loadF (α := BM))); (exact inferInstance); (exact rfl); (exact inferInstance); (exact rfl); (first | (with_reducible assumption) | omega | (focus (simp; done)) | (focus (simp; omega; done)) | decide); (first | (exact rfl) | (exact tg_hw _) | (exact tg_ctr _) | (exact tg_ecu _) | (exact srch_who) | (exact srch_fd))) | ((with_reducible apply (wpl_loadint (t := 3))); (exact rfl); (exact inferInstance); (exact inferInstance); (first | (with_reducible assumption) | omega)) | ((with_reducible apply (wpl_loadbyte (t := 5))); (exact rfl); (exact inferInstance); (exact inferInstance); (first | (with_reducible assumption) | omega)))
        refine wpList_nil ?_
        unfold onlyN
        refine hK_.out _ _ inferInstance (fun _ => ?_)
        clear hK_ K_
        try simp only [Act.put, List.setIfInBounds_toArray]; try simp only [List.set_cons_succ, List.set_cons_zero]
        refine' takeH (i := 10) (v := _) rfl (by kernel_rfl) (by kernel_rfl) (by kernel_rfl) (fun _ _ _ h => h) (yields_of (by rfl) (fun w' _ => ?_)) inferInstance ?_
        rotate_left
        · (first | ((with_reducible apply ev_build); exact run_wait _ _ _ _ _ _) | (go_simp; try with_reducible rfl))
        try simp only [Act.put, List.setIfInBounds_toArray]; try simp only [List.set_cons_succ, List.set_cons_zero]
        refine' takeH (i := 11) (v := _) rfl (by kernel_rfl) (by kernel_rfl) (by kernel_rfl) (fun _ _ _ h => h) (yields_of (by rfl) (fun w' _ => ?_)) inferInstance ?_
        rotate_left
        · (go_simp; try with_reducible rfl)
        try simp only [Act.put, List.setIfInBounds_toArray]; try simp only [List.set_cons_succ, List.set_cons_zero]
        refine goH (i := 12) (by kernel_rfl) rfl (fun K_ hK_ => ?_)
        go_simp
        refine (hpush_calls (A := QA) (c := qc) q ⟨id, A', n, c', d, (cm : Int)⟩ rfl (by simp) hql (by omega)).mono ?_
        rintro e w7 ⟨A7, c7, rfl, hs7, hb7, ho7, hg7⟩
        have o7 : OffA (only z) A7 := ⟨fun ad e hk => (hg7 ad e).elim (fun h7 => (hA ad (h7 ▸ e)).2 hk) (fun h7 => by
          have h8 : ad.block = z := hk
          have h9 := h2.low z h2.inz
          omega)⟩
        refine hK_.out _ _ inferInstance (fun _ => ?_)
        clear hK_ K_
        try simp only [Act.put, List.setIfInBounds_toArray]; try simp only [List.set_cons_succ, List.set_cons_zero]
        refine wpAnyH_done (by kernel_rfl) ?_ _
      case' br1_9 =>
        rw [if_pos (by kernel_rfl)]
        refine wpr_of_list ?_
        (first | ((with_reducible apply wpl_build); (exact run_wait _ _ _ _ _ _)) | ((with_reducible apply wpl_loadrow); (exact rfl); (exact inferInstance); (exact inferInstance); (first | (with_reducible assumption) | (with_reducible exact H32.size _) | (with_reducible exact enc_sz _ rfl) | kernel_rfl)) | ((with_reducible apply wpl_loadcellN); (exact rfl); (exact inferInstance); (first | (exact rfl) | (exact tg_hw _) | (exact tg_ctr _) | (exact tg_ecu _) | (exact srch_who) | (exact srch_fd))) | ((with_reducible apply (wpl_loadhash (t := 64))); (exact rfl); (exact inferInstance); (exact inferInstance); (first | (with_reducible assumption) | omega)) | ((with_reducible apply (wpl_loadE (α := BM) (t := 91))); (exact inferInstance); (exact rfl); (exact inferInstance); (exact rfl); (decide); (first | (with_reducible assumption) | omega | (focus (simp; done)) | (focus (simp; omega; done)) | decide)) | ((with_reducible apply (wpl_loadF (α := BM))); (exact inferInstance); (exact rfl); (exact inferInstance); (exact rfl); (first | (with_reducible assumption) | omega | (focus (simp; done)) | (focus (simp; omega; done)) | decide); (first | (exact rfl) | (exact tg_hw _) | (exact tg_ctr _) | (exact tg_ecu _) | (exact srch_who) | (exact srch_fd))) | ((with_reducible apply (wpl_loadint (t := 3))); (exact rfl); (exact inferInstance); (exact inferInstance); (first | (with_reducible assumption) | omega)) | ((with_reducible apply (wpl_loadbyte (t := 5))); (exact rfl); (exact inferInstance); (exact inferInstance); (first | (with_reducible assumption) | omega)))
        refine wpList_nil ?_
        unfold onlyN
        refine hK_.out _ _ inferInstance (fun _ => ?_)
        clear hK_ K_
        try simp only [Act.put, List.setIfInBounds_toArray]; try simp only [List.set_cons_succ, List.set_cons_zero]
        refine goH (i := 5) (by kernel_rfl) rfl (fun K_ hK_ => ?_)
        go_simp
        refine (copied_calls id (A := A) (c := c) hn (by omega)).mono ?_
        rintro e w6 ⟨A', c', rfl, _, _, _⟩
        have hr6 : HR w6 A' (bs d) := inferInstance
        have hN6 : NewA w5 A' := NewA.monoS (w0 := w5) inferInstance
        have hz6 : w5.heap.size ≤ w6.heap.size := (inferInstance : SzLe w5 w6).out
        refine hK_.out _ _ inferInstance (fun _ => ?_)
        clear hK_ K_
        try simp only [Act.put, List.setIfInBounds_toArray]; try simp only [List.set_cons_succ, List.set_cons_zero]
        refine' takeH (i := 10) (v := _) rfl (by kernel_rfl) (by kernel_rfl) (by kernel_rfl) (fun _ _ _ h => h) (yields_of (by rfl) (fun w' _ => ?_)) inferInstance ?_
        rotate_left
        · (first | ((with_reducible apply ev_build); exact run_wait _ _ _ _ _ _) | (go_simp; try with_reducible rfl))
        try simp only [Act.put, List.setIfInBounds_toArray]; try simp only [List.set_cons_succ, List.set_cons_zero]
        refine' takeH (i := 11) (v := _) rfl (by kernel_rfl) (by kernel_rfl) (by kernel_rfl) (fun _ _ _ h => h) (yields_of (by rfl) (fun w' _ => ?_)) inferInstance ?_
        rotate_left
        · (go_simp; try with_reducible rfl)
        try simp only [Act.put, List.setIfInBounds_toArray]; try simp only [List.set_cons_succ, List.set_cons_zero]
        refine goH (i := 12) (by kernel_rfl) rfl (fun K_ hK_ => ?_)
        go_simp
        refine (hpush_calls (A := QA) (c := qc) q ⟨id, A', n, c', d, (cm : Int)⟩ rfl (by simp) hql (by omega)).mono ?_
        rintro e w7 ⟨A7, c7, rfl, hs7, hb7, ho7, hg7⟩
        have o7 : OffA (only z) A7 := ⟨fun ad e hk => (hg7 ad e).elim (fun h7 => (hA ad (h7 ▸ e)).2 hk) (fun h7 => by
          have h8 : ad.block = z := hk
          have h9 := h2.low z h2.inz
          omega)⟩
        refine hK_.out _ _ inferInstance (fun _ => ?_)
        clear hK_ K_
        try simp only [Act.put, List.setIfInBounds_toArray]; try simp only [List.set_cons_succ, List.set_cons_zero]
        refine wpAnyH_done (by kernel_rfl) ?_ _
      all_goals
        go_wp2_with (first | go_skip | ((with_reducible apply wpl_box_agg); (exact rfl); intro z wz _ _ _) | ((with_reducible apply wpl_box_int); (exact rfl); intro z wz _ _ _) | ((with_reducible apply wpl_box_slice); (exact rfl); intro z wz _ _ _) | ((with_reducible apply wpl_box_str); (exact rfl); intro z wz _ _ _) | ((with_reducible apply wpl_box_bool); (exact rfl); intro z wz _ _ _) | ((with_reducible apply wpl_box_ptr); (exact rfl); intro z wz _ _ _) | ((with_reducible apply (wpl_guard (op := .load _ _))); (exact rfl)) | ((with_reducible apply (wpl_guard (op := .fieldAddr _ _ _))); (exact rfl)) | ((with_reducible apply wpl_loadrow); (exact rfl); (exact inferInstance); (exact inferInstance); (first | (with_reducible assumption) | (with_reducible exact H32.size _) | (with_reducible exact enc_sz _ rfl) | kernel_rfl)) | ((with_reducible apply wpl_loadcellN); (exact rfl); (exact inferInstance); (first | (exact rfl) | (exact tg_hw _) | (exact tg_ctr _) | (exact tg_ecu _) | (exact srch_who) | (exact srch_fd))) | ((with_reducible apply wpl_storerow); (exact rfl); (exact rfl); (exact inferInstance); (exact inferInstance); (first | (with_reducible assumption) | (with_reducible exact H32.size _) | (with_reducible exact enc_sz _ rfl) | kernel_rfl); (first | (with_reducible assumption) | (with_reducible exact H32.size _) | (with_reducible exact enc_sz _ rfl) | kernel_rfl); (first | (with_reducible exact u8s_one _) | (with_reducible assumption) | (with_reducible exact enc_one _) | kernel_rfl); intro ws _ _) | ((with_reducible apply wpl_storecell); (exact rfl); (exact rfl); (exact inferInstance); (exact rfl); (first | (with_reducible assumption) | omega | (focus (simp; done)) | (focus (simp; omega; done)) | decide); intro ws _ _))
        go_ret
        have hC : Chg (zr z QA) w5 ws := (stepC (w0 := w5)).chg
        have hB2 : HB ws z 86 ((#[.slice QA L qc, .int .i64 (cm : Int)].setIfInBounds 0 (.slice A7 (L + 1) c7)).setIfInBounds 1 (.int .i64 ((cm : Int) + 1))) := inferInstance
        have hO2 : HO ws 91 3 A7 (L + 1) c7 (cellsOf (pushL bm0 ahB q ⟨id, A', n, c', d, (cm : Int)⟩)) := inferInstance
        have hR2 : HR ws A' (bs d) := inferInstance
        subst hL
        refine ⟨rfl, BTo.calm n5 (BS.pushDone h2 hb hA hm hq (x := ⟨id, A', n, c', d, (cm : Int)⟩) rfl hn hN6 hR2 hC hB2 hO2 (fun ad e => (hg7 ad e).imp (fun h => h) (fun h => by omega)) (fun ad e hne bd e2 => ?_))⟩
        have hlt := rd_lt hr6.out (by simpa [bs] using hne) e
        have hge := hN6.out ad e
        rcases hg7 bd e2 with h7 | h7
        · have := h2.low _ (hA bd (h7 ▸ e2)).1
          omega
        · omega
end Go.Proofs.Ythoipeamdolfgaa
