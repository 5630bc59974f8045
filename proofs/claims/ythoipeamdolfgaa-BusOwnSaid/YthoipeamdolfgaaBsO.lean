/- BusOwn. -/
import Derived.Test.YthoipeamdolfgaaBsN
open Go Go.RowKit
namespace Go.Proofs.Ythoipeamdolfgaa
open Hp
set_option maxRecDepth 100000 in
set_option maxHeartbeats 1600000 in
theorem busOwn_calls {A : Option Addr} {n c : Nat} {d : List UInt8} {w : World} [hd : HR w A (bs d)] (hn : d.length = n) (hmax : n ≤ 9223372036854775807) :
    Calls Try.prog 8 #[.slice A n c] w fun e w' => e = .returned (.bool true) ∧ Chg nowhere w w' := by
  have hcut : ((n : Int) < 1 ∨ (¬ (n : Int) < 1 ∧ (8 : Int) < n)) ∨ (¬ (n : Int) < 1 ∧ ¬ (8 : Int) < n) := by omega
  rcases hcut with hq | ⟨q1, q2⟩
  · go_enter Try.func8, Try.ntmps8
    rcases hq with q1 | ⟨q1, q2⟩
    all_goals
      go_wp2_with fail
      go_ret
      exact ⟨rfl, Chg.refl _ _⟩
  · have n1 : 1 ≤ n := by omega
    have n8 : n ≤ 8 := by omega
    have f0 : Fact' (([] : List UInt8).length ≤ maxLen) := ⟨by decide⟩
    go_enter Try.func8, Try.ntmps8
    go_wp2_with fail
    refine (newB_calls w).mono ?_
    rintro e w1 ⟨z, rfl, hs1, hB1, hz⟩
    have hbz : HB w1 z 86 #[.slice none 0 0, .int .i64 0] := by
      obtain ⟨q, QA, qc, hb, ho, hA, hm, hq⟩ := hB1.mem
      obtain rfl : QA = none := by
        cases QA with
        | none => rfl
        | some ad => exact absurd ((hA ad rfl).1) (hA ad rfl).2
      rcases ho.form with ⟨_, _, h3, _⟩ | ⟨g, cur, h1, _⟩
      · subst h3
        exact ⟨hb⟩
      · cases h1
    go_wp2_with (first | ((with_reducible apply (stop_dst (dst := some 22))); (try simp only [Act.put, List.setIfInBounds_toArray, List.set_cons_succ, List.set_cons_zero]); ((with_reducible apply (wpl_bslice (dst := some 22))); (exact run_empty _); intro zb wb _ _ _)) | ((with_reducible apply wpl_appendB); (exact rfl); (exact rfl); (exact inferInstance); (exact inferInstance); (exact inferInstance); (exact hn); omega; intro A' c' wa _ _ _ _) | ((with_reducible apply wpl_build); (exact run_frameD _ _ _ _ _)))
    have hA0 : HO wa 5 1 A' (0 + n) c' (bs ([] ++ d)) := inferInstance
    rw [Nat.zero_add, List.nil_append] at hA0
    have hNA : NewA w1 A' := inferInstance
    have hBa : BS wa z (only z) 0 [] := hB1.calm (stepN (w0 := w1) (w := wa)).chg (fun _ _ hk => hk)
    have hs : sendS [] (1, d) = (0, [(1, d)]) := by
      unfold sendS
      rw [if_neg (by show ¬ ((1 : Int) < 0 ∨ 2047 < (1 : Int) ∨ 8 < d.length); omega), if_neg (by decide)]
      rfl
    have hsc : sendC [] (1, d) 0 = 1 := by unfold sendC; rw [hs]; rfl
    have T := send_calls 1 (A := A') (n := n) (c := c') hBa (by omega) hn (by decide) hmax
    rw [hs, hsc] at T
    have oz : OffA (only z) A' := inferInstance
    refine T.mono ?_
    rintro e w3 ⟨rfl, S2, hB3, hC3, hS3⟩
    have st3 : Step (only z) wa w3 := ⟨hC3⟩
    have hA3 : HO w3 5 1 A' n c' (bs d) := inferInstance
    clear T hs hsc
    have hd0 : 0 < d.length := by omega
    have hxr := xor_u8_in ((bget d 0).toNat : Int) 1
    go_wp2_with (first | go_skip | ((with_reducible apply wpl_indexB0); (exact rfl); (exact inferInstance); (exact inferInstance); (exact hn); omega) | ((with_reducible apply (wpl_loadB (t := 5))); (exact rfl); (exact inferInstance); (exact inferInstance); (exact hd0)) | ((with_reducible apply wpl_storeB); (exact rfl); (exact rfl); (exact inferInstance); (exact hd0); (exact hxr); intro w4 _ _) | ((with_reducible apply wpl_alloc); intro z wz _ _ _) | ((with_reducible apply (wpl_guard (op := .load _ _))); (exact rfl)) | ((with_reducible apply (wpl_guard (op := .build _ _))); (exact rfl)) | ((with_reducible apply (wpl_guard (op := .indexAddr _ _ _))); (exact rfl)) | ((with_reducible apply (wpl_guard (op := .fieldAddr _ _ _))); (exact rfl)) | ((with_reducible apply (wpl_guard (op := .convert _ _ _))); (exact rfl)) | ((with_reducible apply wpl_loadrow); (exact rfl); (exact inferInstance); (exact inferInstance); (first | (with_reducible assumption) | (with_reducible exact H32.size _) | (with_reducible exact enc_sz _ rfl) | kernel_rfl)) | ((with_reducible apply wpl_loadcellN); (exact rfl); (exact inferInstance); (first | (exact rfl) | (exact tg_hw _) | (exact tg_ctr _) | (exact tg_ecu _) | (exact srch_who) | (exact srch_fd))) | ((with_reducible apply wpl_storerow); (exact rfl); (exact rfl); (exact inferInstance); (exact inferInstance); (first | (with_reducible assumption) | (with_reducible exact H32.size _) | (with_reducible exact enc_sz _ rfl) | kernel_rfl); (first | (with_reducible assumption) | (with_reducible exact H32.size _) | (with_reducible exact enc_sz _ rfl) | kernel_rfl); (first | (with_reducible exact u8s_one _) | (with_reducible assumption) | (with_reducible exact enc_one _) | kernel_rfl); intro ws _ _) | ((with_reducible apply wpl_storecell); (exact rfl); (exact rfl); (exact inferInstance); (exact rfl); (first | (with_reducible assumption) | omega | (focus (simp; done)) | (focus (simp; omega; done)) | decide); intro ws _ _))
    have hC4 : Chg (rowOf A') w3 w4 := (stepC (w0 := w3)).chg
    have hB4 : BS w4 z S2 1 [(1, d)] := hB3.calm hC4 (fun x hx ⟨ad, e, hk⟩ => by
      have h1 := hA0.out.lt e
      rcases hS3 x hx with h | h
      · exact oz.out ad e (by rw [hk]; exact h)
      · omega)
    have hlow4 : ∀ x, S2 x → w.heap.size ≤ x := fun x hx => (hS3 x hx).elim (fun h => by rw [show x = z from h]; exact hz) (fun h => Nat.le_trans (inferInstance : SzLe w wa).out h)
    have hn4 : Chg nowhere w w4 := ((((inferInstance : Step nowhere w w1).chg.trans (stepN (w0 := w1) (w := wa)).chg (fun _ _ h => h)).step hC3 (fun x hx => by rw [show x = z from hx]; exact hz))).step hC4 (fun x ⟨ad, e, hk⟩ => by rw [← hk]; exact Nat.le_trans (inferInstance : SzLe w w1).out (hNA.out ad e))
    have hd4 : HR w4 A (bs d) := ⟨hd.out.later hn4⟩
    refine (list_calls hB4 (by show 1 ≤ 1000; decide) (fun x hx => by rw [List.mem_singleton.1 hx]; show d.length ≤ 1000; omega)).mono ?_
    rintro e w5 ⟨LA, lc, l, rfl, hs5, hOL, hF, hmap⟩
    have hl1 : l.length = 1 := by
      have h1 := congrArg List.length hmap
      rw [List.length_map] at h1
      exact h1
    have hfd : (gt l 0).d = d := by
      rcases l with _ | ⟨f, l⟩
      · cases hl1
      · injection hmap with h1 h2
        have h3 : (f.id, f.d) = ((1 : Int), d) := h1
        injection h3 with h3 h4
    have hF1 := hF _ (gt_mem l 0 (by omega))
    rw [hfd] at hF1
    have hgn : d.length = (gt l 0).n := own_len8 hF1.1
    have hgn2 : (gt l 0).n = n := by omega
    rw [hgn2] at hF1
    rw [hl1] at hOL ⊢
    have hO5 : HO w5 45 2 LA 1 lc (cellsOf l) := ⟨hOL⟩
    have hA5 : HO w5 5 1 (gt l 0).A n (gt l 0).c (bs d) := ⟨hF1.1⟩
    have h01 : 0 < l.length := by omega
    have HGN := Lib.hid hgn2
    clear hmap hfd hgn2
    clear hF hOL
    go_wp2_with fail
    refine wp_region_N (nowhere) (by kernel_rfl) (fun wd _ _ => ?_)
    refine' takeH (i := 0) (v := _) rfl (by kernel_rfl) (by kernel_rfl) (by kernel_rfl) (fun _ _ _ h => h) (yields_of (by rfl) (fun w' _ => ?_)) inferInstance ?_
    rotate_left
    · (go_simp; try with_reducible rfl)
    try simp only [Act.put, List.setIfInBounds_toArray]; try simp only [List.set_cons_succ, List.set_cons_zero]
    refine' takeH (i := 1) (v := _) rfl (by kernel_rfl) (by kernel_rfl) (by kernel_rfl) (fun _ _ _ h => h) (yields_of (by rfl) (fun w' _ => ?_)) inferInstance ?_
    rotate_left
    · (go_simp; try with_reducible rfl)
    try simp only [Act.put, List.setIfInBounds_toArray]; try simp only [List.set_cons_succ, List.set_cons_zero]
    refine' takeH (i := 2) (v := _) rfl (by kernel_rfl) (by kernel_rfl) (by kernel_rfl) (fun _ _ _ h => h) (yields_of (by rfl) (fun w' _ => ?_)) inferInstance ?_
    rotate_left
    · (go_simp; try with_reducible rfl)
    try simp only [Act.put, List.setIfInBounds_toArray]; try simp only [List.set_cons_succ, List.set_cons_zero]
    refine' takeH (i := 3) (v := _) rfl (by kernel_rfl) (by kernel_rfl) (by kernel_rfl) (fun _ _ _ h => h) (yields_of (by rfl) (fun w' _ => ?_)) inferInstance ?_
    rotate_left
    · (go_simp; try with_reducible rfl)
    try simp only [Act.put, List.setIfInBounds_toArray]; try simp only [List.set_cons_succ, List.set_cons_zero]
    refine' takeH (i := 4) (v := _) rfl (by kernel_rfl) (by kernel_rfl) (by kernel_rfl) (fun _ _ _ h => h) (yields_of (by rfl) (fun w' _ => ?_)) inferInstance ?_
    rotate_left
    · (go_simp; try with_reducible rfl)
    try simp only [Act.put, List.setIfInBounds_toArray]; try simp only [List.set_cons_succ, List.set_cons_zero]
    refine' takeH (i := 5) (v := _) rfl (by kernel_rfl) (by kernel_rfl) (by kernel_rfl) (fun _ _ _ h => h) (yields_of (by rfl) (fun w' _ => ?_)) inferInstance ?_
    rotate_left
    · (first | ((with_reducible apply ev_indexB0); (exact rfl); (exact inferInstance); (exact inferInstance); (first | (with_reducible assumption) | omega); (first | (with_reducible assumption) | omega)) | ((with_reducible apply ev_indexB); (exact rfl); (exact rfl); (exact inferInstance); (exact inferInstance); (first | (with_reducible assumption) | omega); (first | (with_reducible assumption) | omega)) | ((with_reducible apply ev_indexSN); (exact rfl); (exact rfl); (exact inferInstance); (first | (with_reducible assumption) | omega)) | ((with_reducible apply ev_indexS); (exact rfl); (exact rfl); (exact inferInstance); (first | (with_reducible assumption) | omega); (first | (with_reducible assumption) | omega)) | ((with_reducible apply ev_indexArr); (exact rfl); (exact rfl); (exact Try.underlying64); (kernel_rfl); (first | (with_reducible assumption) | omega); (first | (with_reducible assumption) | omega)) | ((with_reducible apply ev_indexH'); (exact rfl); (exact rfl); (exact inferInstance); (exact inferInstance); (first | (with_reducible assumption) | omega); (first | (with_reducible assumption) | omega); (first | (with_reducible assumption) | omega)) | ((with_reducible apply ev_indexH); (exact rfl); (exact rfl); (exact inferInstance); (exact inferInstance); (first | (with_reducible assumption) | omega); (first | (with_reducible assumption) | omega)) | ((with_reducible apply (ev_indexE (α := FR) (t := 41))); (exact rfl); (exact rfl); (exact inferInstance); (exact inferInstance); (first | (with_reducible assumption) | omega | (focus (simp; done)) | (focus (simp; omega; done)) | decide); (exact rfl); (decide); (first | (with_reducible assumption) | omega | (focus (simp; done)) | (focus (simp; omega; done)) | decide)) | ((with_reducible apply (ev_indexE0 (α := FR) (t := 41))); (exact rfl); (exact inferInstance); (exact inferInstance); (first | (with_reducible assumption) | omega | (focus (simp; done)) | (focus (simp; omega; done)) | decide); (exact rfl); (decide); (first | (with_reducible assumption) | omega | (focus (simp; done)) | (focus (simp; omega; done)) | decide)) | (go_simp; try with_reducible rfl))
    try simp only [Act.put, List.setIfInBounds_toArray]; try simp only [List.set_cons_succ, List.set_cons_zero]
    refine' takeH (i := 6) (v := _) rfl (by kernel_rfl) (by kernel_rfl) (by kernel_rfl) (fun _ _ _ h => h) (yields_of (by rfl) (fun w' _ => ?_)) inferInstance ?_
    rotate_left
    · (first | ((with_reducible apply (ev_fieldE (t := 45))); (exact Try.underlying45); (exact rfl); (kernel_rfl); (exact rfl); (exact inferInstance); (exact cells_pos (by decide) (by omega))) | (go_simp; try with_reducible rfl))
    try simp only [Act.put, List.setIfInBounds_toArray]; try simp only [List.set_cons_succ, List.set_cons_zero]
    refine' takeH (i := 7) (v := _) rfl (by kernel_rfl) (by kernel_rfl) (by kernel_rfl) (fun _ _ _ h => h) (yields_of (by rfl) (fun w' _ => ?_)) inferInstance ?_
    rotate_left
    · (first | ((with_reducible apply (ev_loadB (t := 5))); (exact rfl); (exact inferInstance); (exact inferInstance); (first | (with_reducible assumption) | omega)) | ((with_reducible apply ev_loadrow); (exact rfl); (exact inferInstance); (exact inferInstance); (first | (with_reducible assumption) | (with_reducible exact H32.size _) | (with_reducible exact enc_sz _ rfl) | kernel_rfl)) | ((with_reducible apply (ev_loadhash (t := 64))); (exact rfl); (exact inferInstance); (exact inferInstance); (first | (with_reducible assumption) | omega)) | ((with_reducible apply ev_loadcellN); (exact rfl); (exact inferInstance); (exact inferInstance); (first | (exact rfl) | (exact tg_hw _) | (exact tg_ctr _) | (exact tg_ecu _) | (exact srch_who) | (exact srch_fd))) | ((with_reducible apply (ev_loadE (α := FR) (t := 45))); (exact inferInstance); (exact rfl); (exact inferInstance); (exact rfl); (decide); (first | (with_reducible assumption) | omega | (focus (simp; done)) | (focus (simp; omega; done)) | decide)) | ((with_reducible apply (ev_loadF (α := FR))); (exact inferInstance); (exact rfl); (exact inferInstance); (exact rfl); (first | (with_reducible assumption) | omega | (focus (simp; done)) | (focus (simp; omega; done)) | decide); (first | (exact rfl) | (exact tg_hw _) | (exact tg_ctr _) | (exact tg_ecu _) | (exact srch_who) | (exact srch_fd))) | ((with_reducible apply (ev_loadint (t := 3))); (exact rfl); (exact inferInstance); (exact inferInstance); (first | (with_reducible assumption) | omega)) | ((with_reducible apply (ev_loadbyte (t := 5))); (exact rfl); (exact inferInstance); (exact inferInstance); (first | (with_reducible assumption) | omega)) | (go_simp; try with_reducible rfl))
    try simp only [Act.put, List.setIfInBounds_toArray]; try simp only [List.set_cons_succ, List.set_cons_zero]
    refine' takeH (i := 8) (v := _) rfl (by kernel_rfl) (by kernel_rfl) (by kernel_rfl) (fun _ _ _ h => h) (yields_of (by rfl) (fun w' _ => ?_)) inferInstance ?_
    rotate_left
    · (first | ((with_reducible apply ev_conv); (exact rfl); (exact inferInstance); (first | (with_reducible assumption) | (focus (simp; done)) | omega); (exact Try.underlying31); (exact Try.underlying5); (exact Try.underlying9)) | (go_simp; try with_reducible rfl))
    try simp only [Act.put, List.setIfInBounds_toArray]; try simp only [List.set_cons_succ, List.set_cons_zero]
    refine' takeH (i := 9) (v := _) rfl (by kernel_rfl) (by kernel_rfl) (by kernel_rfl) (fun _ _ _ h => h) (yields_of (by rfl) (fun w' _ => ?_)) inferInstance ?_
    rotate_left
    · (go_simp; try with_reducible rfl)
    try simp only [Act.put, List.setIfInBounds_toArray]; try simp only [List.set_cons_succ, List.set_cons_zero]
    refine' takeH (i := 10) (v := _) rfl (by kernel_rfl) (by kernel_rfl) (by kernel_rfl) (fun _ _ _ h => h) (yields_of (by rfl) (fun w' _ => ?_)) inferInstance ?_
    rotate_left
    · (first | ((with_reducible apply ev_conv); (exact rfl); (exact inferInstance); (first | (with_reducible assumption) | (focus (simp; done)) | omega); (exact Try.underlying31); (exact Try.underlying5); (exact Try.underlying9)) | (go_simp; try with_reducible rfl))
    try simp only [Act.put, List.setIfInBounds_toArray]; try simp only [List.set_cons_succ, List.set_cons_zero]
    refine' takeH (i := 11) (v := _) rfl (by kernel_rfl) (by kernel_rfl) (by kernel_rfl) (fun _ _ _ h => h) (yields_of (by rfl) (fun w' _ => ?_)) inferInstance ?_
    rotate_left
    · (go_simp; try with_reducible rfl)
    try simp only [Act.put, List.setIfInBounds_toArray]; try simp only [List.set_cons_succ, List.set_cons_zero]
    refine' takeH (i := 12) (v := _) rfl (by kernel_rfl) (by kernel_rfl) (by kernel_rfl) (fun _ _ _ h => h) (yields_of (by rfl) (fun w' _ => ?_)) inferInstance ?_
    rotate_left
    · (go_simp; try with_reducible rfl)
    try simp only [Act.put, List.setIfInBounds_toArray]; try simp only [List.set_cons_succ, List.set_cons_zero]
    refine wpAnyH_done (by kernel_rfl) ?_ _
    have hg0 : 0 < (gt l 0).n := by omega
    go_wp2_with (first | go_skip | ((with_reducible apply wpl_indexB0); (exact rfl); (exact inferInstance); (exact inferInstance); (exact hgn); (exact hg0)) | ((with_reducible apply (wpl_loadB (t := 5))); (exact rfl); (exact inferInstance); (exact inferInstance); (exact hd0)) | ((with_reducible apply wpl_storeB); (exact rfl); (exact rfl); (exact inferInstance); (exact hd0); (exact hxr); intro w6 _ _) | ((with_reducible apply wpl_alloc); intro z wz _ _ _) | ((with_reducible apply (wpl_guard (op := .load _ _))); (exact rfl)) | ((with_reducible apply (wpl_guard (op := .build _ _))); (exact rfl)) | ((with_reducible apply (wpl_guard (op := .indexAddr _ _ _))); (exact rfl)) | ((with_reducible apply (wpl_guard (op := .fieldAddr _ _ _))); (exact rfl)) | ((with_reducible apply (wpl_guard (op := .convert _ _ _))); (exact rfl)) | ((with_reducible apply wpl_loadrow); (exact rfl); (exact inferInstance); (exact inferInstance); (first | (with_reducible assumption) | (with_reducible exact H32.size _) | (with_reducible exact enc_sz _ rfl) | kernel_rfl)) | ((with_reducible apply wpl_loadcellN); (exact rfl); (exact inferInstance); (first | (exact rfl) | (exact tg_hw _) | (exact tg_ctr _) | (exact tg_ecu _) | (exact srch_who) | (exact srch_fd))) | ((with_reducible apply wpl_storerow); (exact rfl); (exact rfl); (exact inferInstance); (exact inferInstance); (first | (with_reducible assumption) | (with_reducible exact H32.size _) | (with_reducible exact enc_sz _ rfl) | kernel_rfl); (first | (with_reducible assumption) | (with_reducible exact H32.size _) | (with_reducible exact enc_sz _ rfl) | kernel_rfl); (first | (with_reducible exact u8s_one _) | (with_reducible assumption) | (with_reducible exact enc_one _) | kernel_rfl); intro ws _ _) | ((with_reducible apply wpl_storecell); (exact rfl); (exact rfl); (exact inferInstance); (exact rfl); (first | (with_reducible assumption) | omega | (focus (simp; done)) | (focus (simp; omega; done)) | decide); intro ws _ _) | ((with_reducible apply wpl_indexH); (exact rfl); (exact rfl); (exact inferInstance); (exact inferInstance); (first | (with_reducible assumption) | omega); (first | (with_reducible assumption) | omega); (first | (with_reducible assumption) | omega)) | ((with_reducible apply wpl_indexH'); (exact rfl); (exact rfl); (exact inferInstance); (exact inferInstance); (first | (with_reducible assumption) | omega); (first | (with_reducible assumption) | omega); (first | (with_reducible assumption) | omega)) | ((with_reducible apply (wpl_loadhash (t := 64))); (exact rfl); (exact inferInstance); (exact inferInstance); (first | (with_reducible assumption) | omega)) | ((with_reducible apply (wpl_storehash (t := 64))); (exact rfl); (exact rfl); (exact inferInstance); (exact inferInstance); (first | (with_reducible assumption) | omega | (focus (simp; done)) | (focus (simp; omega; done)) | decide); intro ws _ _) | ((with_reducible apply wpl_appendB); (exact rfl); (exact rfl); (exact inferInstance); (first | exact inferInstance | exact ⟨Own.nil _ _ _⟩); (exact inferInstance); (first | (with_reducible assumption) | (with_reducible exact H32.len _) | (focus (simp; done)) | omega); (first | (with_reducible assumption) | omega); intro A' c' wa _ _ _ hcap) | ((with_reducible apply wpl_appendH); (exact rfl); (exact rfl); (exact inferInstance); (first | exact inferInstance | exact ⟨Own.nil _ _ _⟩); (exact inferInstance); (first | (with_reducible assumption) | omega); intro A' c' wa _ _ _ hcap) | ((with_reducible apply (wpl_appendR (α := FR))); (exact rfl); (exact rfl); (exact inferInstance); (first | exact inferInstance | exact ⟨Own.nil _ _ _⟩); (exact inferInstance); (exact rfl); (first | (with_reducible assumption) | (with_reducible exact H32.len _) | (focus (simp; done)) | omega); (first | (with_reducible assumption) | omega); (decide); (decide); intro A' c' wa _ _ _ hcap) | ((with_reducible apply (wpl_loadbyteH (t := 5))); (exact rfl); (exact inferInstance); (first | (with_reducible assumption) | omega); (first | (with_reducible assumption) | omega)) | ((with_reducible apply (wpl_storebyteH (t := 5))); (exact rfl); (exact rfl); (exact inferInstance); (first | (with_reducible assumption) | omega); (first | (with_reducible assumption) | omega); (first | (constructor <;> omega) | exact xor_u8_in _ _); intro ws _ _) | ((with_reducible apply (wpl_indexE (α := FR) (t := 41))); (exact rfl); (exact rfl); (exact inferInstance); (exact inferInstance); (first | (with_reducible assumption) | omega | (focus (simp; done)) | (focus (simp; omega; done)) | decide); (exact rfl); (decide); (first | (with_reducible assumption) | omega | (focus (simp; done)) | (focus (simp; omega; done)) | decide)) | ((with_reducible apply (wpl_indexE0 (α := FR) (t := 41))); (exact rfl); (exact inferInstance); (exact inferInstance); (first | (with_reducible assumption) | omega | (focus (simp; done)) | (focus (simp; omega; done)) | decide); (exact rfl); (decide); (first | (with_reducible assumption) | omega | (focus (simp; done)) | (focus (simp; omega; done)) | decide)) | ((with_reducible apply (wpl_loadE (α := FR) (t := 45))); (exact inferInstance); (exact rfl); (exact inferInstance); (exact rfl); (decide); (first | (with_reducible assumption) | omega | (focus (simp; done)) | (focus (simp; omega; done)) | decide)) | ((with_reducible apply (wpl_fieldE (t := 45))); (exact Try.underlying45); (exact rfl); (kernel_rfl); (exact rfl); (exact inferInstance); (exact cells_pos (by decide) (by omega))) | ((with_reducible apply (wpl_loadF (α := FR))); (exact inferInstance); (exact rfl); (exact inferInstance); (exact rfl); (first | (with_reducible assumption) | omega | (focus (simp; done)) | (focus (simp; omega; done)) | decide); (first | (exact rfl) | (exact tg_hw _) | (exact tg_ctr _) | (exact tg_ecu _) | (exact srch_who) | (exact srch_fd))) | ((with_reducible apply wpl_indexB0); (exact rfl); (exact inferInstance); (exact inferInstance); (first | (with_reducible assumption) | (with_reducible exact H32.len _) | (focus (simp; done)) | omega); (first | (with_reducible assumption) | omega)) | ((with_reducible apply wpl_indexB); (exact rfl); (exact rfl); (exact inferInstance); (exact inferInstance); (first | (with_reducible assumption) | (with_reducible exact H32.len _) | (focus (simp; done)) | omega); (first | (with_reducible assumption) | omega)) | ((with_reducible apply (wpl_loadB (t := 5))); (exact rfl); (exact inferInstance); (exact inferInstance); (first | (with_reducible assumption) | omega)) | ((with_reducible apply wpl_conv); (exact rfl); (exact inferInstance); (first | (with_reducible assumption) | (focus (simp; done)) | omega); (exact Try.underlying31); (exact Try.underlying5); (exact Try.underlying9)) | ((with_reducible apply (wpl_loadint (t := 3))); (exact rfl); (exact inferInstance); (exact inferInstance); (first | (with_reducible assumption) | omega)) | ((with_reducible apply (wpl_loadbyte (t := 5))); (exact rfl); (exact inferInstance); (exact inferInstance); (first | (with_reducible assumption) | omega)) | ((with_reducible apply (wpl_storeint (t := 3))); (exact rfl); (exact rfl); (exact inferInstance); (first | (with_reducible assumption) | omega); intro ws _ _) | ((with_reducible apply (wpl_storebyte (t := 5))); (exact rfl); (exact rfl); (exact inferInstance); (first | (with_reducible assumption) | omega | (focus (simp; done)) | (focus (simp; omega; done)) | decide); (constructor <;> omega); intro ws _ _))
    have hC6 : Chg (rowOf (gt l 0).A) w5 w6 := (stepC (w0 := w5)).chg
    have hB6 : BS w6 z S2 1 [(1, d)] := (hB4.calm hs5.chg (fun _ _ hk => hk)).calm hC6 (fun x hx ⟨ad, e, hk⟩ => by
      have h1 := hF1.2 ad e
      have h2 := hB4.low x hx
      omega)
    have hn6 : Chg nowhere w w6 := (hn4.trans hs5.chg (fun _ _ h => h)).step hC6 (fun x ⟨ad, e, hk⟩ => by
      have h1 := hF1.2 ad e
      have h2 := hn4.size
      omega)
    refine (next_calls hB6 (Nat.zero_le _)).mono ?_
    rintro e w7 ⟨A7, c7, rfl, ⟨S7, hB7, hC7, hS7⟩, hr7, hA7⟩
    have hn7 : Chg nowhere w w7 := hn6.step hC7 hlow4
    have hd7 : HR w7 A (bs d) := ⟨hd.out.later hn7⟩
    have hR7 : HR w7 A7 (bs d) := ⟨hr7⟩
    go_wp2_with (first | go_skip | ((with_reducible apply (wpl_alloc (dst := some 6))); intro zf wzf _ _ _) | ((with_reducible apply wpl_alloc); intro z wz _ _ _) | ((with_reducible apply (wpl_guard (op := .load _ _))); (exact rfl)) | ((with_reducible apply (wpl_guard (op := .build _ _))); (exact rfl)) | ((with_reducible apply (wpl_guard (op := .indexAddr _ _ _))); (exact rfl)) | ((with_reducible apply (wpl_guard (op := .fieldAddr _ _ _))); (exact rfl)) | ((with_reducible apply (wpl_guard (op := .convert _ _ _))); (exact rfl)) | ((with_reducible apply wpl_loadrow); (exact rfl); (exact inferInstance); (exact inferInstance); (first | (with_reducible assumption) | (with_reducible exact H32.size _) | (with_reducible exact enc_sz _ rfl) | kernel_rfl)) | ((with_reducible apply wpl_loadcellN); (exact rfl); (exact inferInstance); (first | (exact rfl) | (exact tg_hw _) | (exact tg_ctr _) | (exact tg_ecu _) | (exact srch_who) | (exact srch_fd))) | ((with_reducible apply wpl_storerow); (exact rfl); (exact rfl); (exact inferInstance); (exact inferInstance); (first | (with_reducible assumption) | (with_reducible exact H32.size _) | (with_reducible exact enc_sz _ rfl) | kernel_rfl); (first | (with_reducible assumption) | (with_reducible exact H32.size _) | (with_reducible exact enc_sz _ rfl) | kernel_rfl); (first | (with_reducible exact u8s_one _) | (with_reducible assumption) | (with_reducible exact enc_one _) | kernel_rfl); intro ws _ _) | ((with_reducible apply wpl_storecell); (exact rfl); (exact rfl); (exact inferInstance); (exact rfl); (first | (with_reducible assumption) | omega | (focus (simp; done)) | (focus (simp; omega; done)) | decide); intro ws _ _))
    refine (nextNil_calls _).mono ?_
    rintro e w8 ⟨rfl, _⟩
    go_wp2_with (first | go_skip | ((with_reducible apply (wpl_alloc (dst := some 9))); intro zg wzg _ _ _) | ((with_reducible apply wpl_alloc); intro z wz _ _ _) | ((with_reducible apply (wpl_guard (op := .load _ _))); (exact rfl)) | ((with_reducible apply (wpl_guard (op := .build _ _))); (exact rfl)) | ((with_reducible apply (wpl_guard (op := .indexAddr _ _ _))); (exact rfl)) | ((with_reducible apply (wpl_guard (op := .fieldAddr _ _ _))); (exact rfl)) | ((with_reducible apply (wpl_guard (op := .convert _ _ _))); (exact rfl)) | ((with_reducible apply wpl_loadrow); (exact rfl); (exact inferInstance); (exact inferInstance); (first | (with_reducible assumption) | (with_reducible exact H32.size _) | (with_reducible exact enc_sz _ rfl) | kernel_rfl)) | ((with_reducible apply wpl_loadcellN); (exact rfl); (exact inferInstance); (first | (exact rfl) | (exact tg_hw _) | (exact tg_ctr _) | (exact tg_ecu _) | (exact srch_who) | (exact srch_fd))) | ((with_reducible apply wpl_storerow); (exact rfl); (exact rfl); (exact inferInstance); (exact inferInstance); (first | (with_reducible assumption) | (with_reducible exact H32.size _) | (with_reducible exact enc_sz _ rfl) | kernel_rfl); (first | (with_reducible assumption) | (with_reducible exact H32.size _) | (with_reducible exact enc_sz _ rfl) | kernel_rfl); (first | (with_reducible exact u8s_one _) | (with_reducible assumption) | (with_reducible exact enc_one _) | kernel_rfl); intro ws _ _) | ((with_reducible apply wpl_storecell); (exact rfl); (exact rfl); (exact inferInstance); (exact rfl); (first | (with_reducible assumption) | omega | (focus (simp; done)) | (focus (simp; omega; done)) | decide); intro ws _ _) | ((with_reducible apply wpl_indexH); (exact rfl); (exact rfl); (exact inferInstance); (exact inferInstance); (first | (with_reducible assumption) | omega); (first | (with_reducible assumption) | omega); (first | (with_reducible assumption) | omega)) | ((with_reducible apply wpl_indexH'); (exact rfl); (exact rfl); (exact inferInstance); (exact inferInstance); (first | (with_reducible assumption) | omega); (first | (with_reducible assumption) | omega); (first | (with_reducible assumption) | omega)) | ((with_reducible apply (wpl_loadhash (t := 64))); (exact rfl); (exact inferInstance); (exact inferInstance); (first | (with_reducible assumption) | omega)) | ((with_reducible apply (wpl_storehash (t := 64))); (exact rfl); (exact rfl); (exact inferInstance); (exact inferInstance); (first | (with_reducible assumption) | omega | (focus (simp; done)) | (focus (simp; omega; done)) | decide); intro ws _ _) | ((with_reducible apply wpl_appendB); (exact rfl); (exact rfl); (exact inferInstance); (first | exact inferInstance | exact ⟨Own.nil _ _ _⟩); (exact inferInstance); (first | (with_reducible assumption) | (with_reducible exact H32.len _) | (focus (simp; done)) | omega); (first | (with_reducible assumption) | omega); intro A' c' wa _ _ _ hcap) | ((with_reducible apply wpl_appendH); (exact rfl); (exact rfl); (exact inferInstance); (first | exact inferInstance | exact ⟨Own.nil _ _ _⟩); (exact inferInstance); (first | (with_reducible assumption) | omega); intro A' c' wa _ _ _ hcap) | ((with_reducible apply (wpl_appendR (α := FR))); (exact rfl); (exact rfl); (exact inferInstance); (first | exact inferInstance | exact ⟨Own.nil _ _ _⟩); (exact inferInstance); (exact rfl); (first | (with_reducible assumption) | (with_reducible exact H32.len _) | (focus (simp; done)) | omega); (first | (with_reducible assumption) | omega); (decide); (decide); intro A' c' wa _ _ _ hcap) | ((with_reducible apply (wpl_loadbyteH (t := 5))); (exact rfl); (exact inferInstance); (first | (with_reducible assumption) | omega); (first | (with_reducible assumption) | omega)) | ((with_reducible apply (wpl_storebyteH (t := 5))); (exact rfl); (exact rfl); (exact inferInstance); (first | (with_reducible assumption) | omega); (first | (with_reducible assumption) | omega); (first | (constructor <;> omega) | exact xor_u8_in _ _); intro ws _ _) | ((with_reducible apply (wpl_indexE (α := FR) (t := 41))); (exact rfl); (exact rfl); (exact inferInstance); (exact inferInstance); (first | (with_reducible assumption) | omega | (focus (simp; done)) | (focus (simp; omega; done)) | decide); (exact rfl); (decide); (first | (with_reducible assumption) | omega | (focus (simp; done)) | (focus (simp; omega; done)) | decide)) | ((with_reducible apply (wpl_indexE0 (α := FR) (t := 41))); (exact rfl); (exact inferInstance); (exact inferInstance); (first | (with_reducible assumption) | omega | (focus (simp; done)) | (focus (simp; omega; done)) | decide); (exact rfl); (decide); (first | (with_reducible assumption) | omega | (focus (simp; done)) | (focus (simp; omega; done)) | decide)) | ((with_reducible apply (wpl_loadE (α := FR) (t := 45))); (exact inferInstance); (exact rfl); (exact inferInstance); (exact rfl); (decide); (first | (with_reducible assumption) | omega | (focus (simp; done)) | (focus (simp; omega; done)) | decide)) | ((with_reducible apply (wpl_fieldE (t := 45))); (exact Try.underlying45); (exact rfl); (kernel_rfl); (exact rfl); (exact inferInstance); (exact cells_pos (by decide) (by omega))) | ((with_reducible apply (wpl_loadF (α := FR))); (exact inferInstance); (exact rfl); (exact inferInstance); (exact rfl); (first | (with_reducible assumption) | omega | (focus (simp; done)) | (focus (simp; omega; done)) | decide); (first | (exact rfl) | (exact tg_hw _) | (exact tg_ctr _) | (exact tg_ecu _) | (exact srch_who) | (exact srch_fd))) | ((with_reducible apply wpl_indexB0); (exact rfl); (exact inferInstance); (exact inferInstance); (first | (with_reducible assumption) | (with_reducible exact H32.len _) | (focus (simp; done)) | omega); (first | (with_reducible assumption) | omega)) | ((with_reducible apply wpl_indexB); (exact rfl); (exact rfl); (exact inferInstance); (exact inferInstance); (first | (with_reducible assumption) | (with_reducible exact H32.len _) | (focus (simp; done)) | omega); (first | (with_reducible assumption) | omega)) | ((with_reducible apply (wpl_loadB (t := 5))); (exact rfl); (exact inferInstance); (exact inferInstance); (first | (with_reducible assumption) | omega)) | ((with_reducible apply wpl_conv); (exact rfl); (exact inferInstance); (first | (with_reducible assumption) | (focus (simp; done)) | omega); (exact Try.underlying31); (exact Try.underlying5); (exact Try.underlying9)) | ((with_reducible apply (wpl_loadint (t := 3))); (exact rfl); (exact inferInstance); (exact inferInstance); (first | (with_reducible assumption) | omega)) | ((with_reducible apply (wpl_loadbyte (t := 5))); (exact rfl); (exact inferInstance); (exact inferInstance); (first | (with_reducible assumption) | omega)) | ((with_reducible apply (wpl_storeint (t := 3))); (exact rfl); (exact rfl); (exact inferInstance); (first | (with_reducible assumption) | omega); intro ws _ _) | ((with_reducible apply (wpl_storebyte (t := 5))); (exact rfl); (exact rfl); (exact inferInstance); (first | (with_reducible assumption) | omega | (focus (simp; done)) | (focus (simp; omega; done)) | decide); (constructor <;> omega); intro ws _ _))
    refine (sendNil_calls 0 none 0 0 _).mono ?_
    rintro e w9 ⟨rfl, _⟩
    go_wp2_with fail
    refine (lenNil_calls _).mono ?_
    rintro e wA ⟨rfl, rfl⟩
    go_wp2_with fail
    refine (listNil_calls _).mono ?_
    rintro e wB ⟨rfl, rfl⟩
    go_wp2_with fail
    refine (known_calls _).mono ?_
    rintro e wC ⟨rfl, _⟩
    go_wp2_with fail
    go_ret
    exact ⟨rfl, hn7.trans (stepN (w0 := w7)).chg (fun _ _ h => h)⟩
end Go.Proofs.Ythoipeamdolfgaa
