/- Take, its other kinds. -/
import Derived.Test.YtmeeopfdplaiaaaSgN
open Go Go.RowKit
namespace Go.Proofs.Ytmeeopfdplaiaaa
set_option maxRecDepth 100000 in
set_option maxHeartbeats 3200000 in
theorem take3_calls (id now : Int) {A : Option Addr} {n c : Nat} {d : List UInt8} {w : World} {z : Nat} {S : Nat → Prop} {s : St} (h : JS w z S s) (hN : s.N ≤ 100000000) (hm : s.m ≤ 1000000000) (hid : (Lit.int .i64 id).wf = true) (hp : Rd w A (bs d)) (ho : Apart S A (bs d)) (hn : d.length = n) (hcc : n ≤ c) (hn2 : n ≤ 1000)
    (h3 : -9223372036854775808 ≤ now) (h4 : now ≤ 9223372036854775807) (k0 : 1 ≤ n) (hk : (bget d 0).toNat / 16 = 2) :
    Calls Try.prog 17 #[.pointer (some ⟨z, 0, none⟩), .agg #[.int .i64 id, .slice A n c], .int .i64 now] w (TkPost z S w (takeS s id d now)) := by
  have hR : HR w A (bs d) := ⟨hp⟩
  obtain ⟨F, M, hb, hr, hmm, hg⟩ := h.mem
  have hB : HB w z 79 #[.map M, .int .i64 s.N] := ⟨hb⟩
  have hJ : HMJ w M s.m (cellsG s F) := ⟨hmm⟩
  have hss := look_some s F id
  have b0 : ((n : Int) == 0) = false := beqF (by omega)
  have n0 : 1 ≤ n := k0
  have hk0 : 0 < d.length := by omega
  obtain ⟨l0, hl0⟩ : ∃ l0, (bget d 0).toNat % 16 = l0 := ⟨_, rfl⟩
  obtain ⟨pd, hpd⟩ : ∃ pd, d.drop 1 = pd := ⟨_, rfl⟩
  have h16 : l0 < 16 := by omega
  have hpl : pd.length = n - 1 := by rw [← hpd, List.length_drop, hn]
  have HRP : ∀ w', HR w' A (bs d) → Rd w' (cutA A 1 c 1) (bs pd) := fun w' h' => by rw [← hpd]; exact (HR.cutB h' hn hcc 1).out
  have HAP : Apart S (cutA A 1 c 1) (bs pd) := by rw [← hpd]; exact apart_cutB ho c 1 (by decide)
  have HW := Lib.hid (show IntKind.i64.wrap ((((bget d 0).toNat : Nat) : Int).tmod 16) = (l0 : Int) by
    rw [Int.tmod_eq_emod_of_nonneg (by omega), IntKind.wrap_i64]
    omega)
  have hkey : takeS s id d now = furtherS (lateS s id now) id l0 pd now := by rw [takeS, kindS, if_neg (by omega), if_neg (by omega), if_neg (by omega), if_pos hk, hl0, hpd]
  rw [hkey]
  clear hkey
  have HLO := Lib.hid hl0
  have HPD := Lib.hid hpd
  clear hl0 hpd
  have b1 : ((((bget d 0).toNat : Nat) : Int) / 16 == 0) = false := beqF (by omega)
  have b2 : ((((bget d 0).toNat : Nat) : Int) / 16 == 1) = false := beqF (by omega)
  have b3 : ((((bget d 0).toNat : Nat) : Int) / 16 == 2) = true := beqT (by omega)
  cases hs : s.G id with
  | none =>
    rw [hs] at hss
    have HS := Lib.hid hss
    clear hss
    rw [late_none now hs]
    have hz4 := look_size s F id
    have hone := look_one s F id
    obtain ⟨lk, hlk⟩ : ∃ lk, (cellsG s F id).getD zMsgC = lk := ⟨_, rfl⟩
    rw [hlk] at hz4 hone
    have HL := Lib.hid hlk
    clear hlk
    go_enter Try.func17, Try.ntmps17
    go_wp2_with (first | go_skip | ((with_reducible apply (wpl_alloc (dst := some 4))); intro zf wzf _ _ _) | ((with_reducible apply (wpl_box_agg (dst := some 4))); exact rfl; intro zf wzf _ _ _) | ((with_reducible apply (wpl_box_int (dst := some 4))); exact rfl; intro zf wzf _ _ _) | ((with_reducible apply (wpl_box_slice (dst := some 4))); exact rfl; intro zf wzf _ _ _) | ((with_reducible apply (wpl_box_str (dst := some 4))); exact rfl; intro zf wzf _ _ _) | ((with_reducible apply (wpl_box_bool (dst := some 4))); exact rfl; intro zf wzf _ _ _) | ((with_reducible apply (wpl_box_ptr (dst := some 4))); exact rfl; intro zf wzf _ _ _) | ((with_reducible apply wpl_alloc); intro z wz _ _ _) | ((with_reducible apply wpl_box_agg); exact rfl; intro z wz _ _ _) | ((with_reducible apply wpl_box_int); exact rfl; intro z wz _ _ _) | ((with_reducible apply wpl_box_slice); exact rfl; intro z wz _ _ _) | ((with_reducible apply wpl_box_str); exact rfl; intro z wz _ _ _) | ((with_reducible apply wpl_box_bool); exact rfl; intro z wz _ _ _) | ((with_reducible apply wpl_box_ptr); exact rfl; intro z wz _ _ _) | ((with_reducible apply (wpl_guard (op := .load _ _))); exact rfl) | ((with_reducible apply wpl_loadrow); exact rfl; infer_instance; infer_instance; (first | with_reducible assumption | (with_reducible exact H32.size _) | kernel_rfl)) | ((with_reducible apply wpl_loadcellN); exact rfl; infer_instance; exact rfl) | ((with_reducible apply wpl_storerow); exact rfl; exact rfl; infer_instance; infer_instance; (first | with_reducible assumption | (with_reducible exact H32.size _) | kernel_rfl); (first | with_reducible assumption | (with_reducible exact H32.size _) | kernel_rfl); (first | (with_reducible exact u8s_one _) | with_reducible assumption | kernel_rfl); intro ws _ _) | ((with_reducible apply wpl_storecell); exact rfl; exact rfl; infer_instance; exact rfl; (first | with_reducible assumption | omega | (focus (simp; done)) | (focus (simp; omega; done)) | decide); intro ws _ _))
    refine wp_region_N (nowhere) (by kernel_rfl) (fun wd _ _ => ?_)
    refine' takeH (i := 0) (v := _) rfl (by kernel_rfl) (by kernel_rfl) (by kernel_rfl) (fun _ _ _ h => h) (yields_of (by rfl) (fun w' _ => ?_)) inferInstance ?_
    rotate_left
    · (go_simp; try with_reducible rfl)
    try simp only [Act.put, sA]; try simp only [sB, sC]
    refine' takeH (i := 1) (v := _) rfl (by kernel_rfl) (by kernel_rfl) (by kernel_rfl) (fun _ _ _ h => h) (yields_of (by rfl) (fun w' _ => ?_)) inferInstance ?_
    rotate_left
    · (go_simp; try with_reducible rfl)
    try simp only [Act.put, sA]; try simp only [sB, sC]
    refine' takeH (i := 2) (v := _) rfl (by kernel_rfl) (by kernel_rfl) (by kernel_rfl) (fun _ _ _ h => h) (yields_of (by rfl) (fun w' _ => ?_)) inferInstance ?_
    rotate_left
    · (go_simp; try with_reducible rfl)
    try simp only [Act.put, sA]; try simp only [sB, sC]
    refine' takeH (i := 3) (v := _) rfl (by kernel_rfl) (by kernel_rfl) (by kernel_rfl) (fun _ _ _ h => h) (yields_of (by rfl) (fun w' _ => ?_)) inferInstance ?_
    rotate_left
    · (first | ((with_reducible apply (ev_loadB (t := 5))); exact rfl; infer_instance; infer_instance; (first | with_reducible assumption | omega)) | ((with_reducible apply ev_loadrow); exact rfl; infer_instance; infer_instance; (first | with_reducible assumption | (with_reducible exact H32.size _) | kernel_rfl)) | ((with_reducible apply ev_loadcellN); exact rfl; infer_instance; infer_instance; exact rfl) | ((with_reducible apply (ev_loadint (t := 3))); exact rfl; infer_instance; infer_instance; (first | with_reducible assumption | omega)) | ((with_reducible apply (ev_loadbyte (t := 5))); exact rfl; infer_instance; infer_instance; (first | with_reducible assumption | omega)) | (go_simp; try with_reducible rfl))
    try simp only [Act.put, sA]; try simp only [sB, sC]
    refine' takeH (i := 4) (v := _) rfl (by kernel_rfl) (by kernel_rfl) (by kernel_rfl) (fun _ _ _ h => h) (yields_of (by rfl) (fun w' _ => ?_)) inferInstance ?_
    rotate_left
    · (go_simp; try with_reducible rfl)
    try simp only [Act.put, sA]; try simp only [sB, sC]
    refine' takeH (i := 5) (v := _) rfl (by kernel_rfl) (by kernel_rfl) (by kernel_rfl) (fun _ _ _ h => h) (yields_of (by rfl) (fun w' _ => ?_)) inferInstance ?_
    rotate_left
    · (first | ((with_reducible apply (ev_loadB (t := 5))); exact rfl; infer_instance; infer_instance; (first | with_reducible assumption | omega)) | ((with_reducible apply ev_loadrow); exact rfl; infer_instance; infer_instance; (first | with_reducible assumption | (with_reducible exact H32.size _) | kernel_rfl)) | ((with_reducible apply ev_loadcellN); exact rfl; infer_instance; infer_instance; exact rfl) | ((with_reducible apply (ev_loadint (t := 3))); exact rfl; infer_instance; infer_instance; (first | with_reducible assumption | omega)) | ((with_reducible apply (ev_loadbyte (t := 5))); exact rfl; infer_instance; infer_instance; (first | with_reducible assumption | omega)) | (go_simp; try with_reducible rfl))
    try simp only [Act.put, sA]; try simp only [sB, sC]
    refine' takeH (i := 6) (v := _) rfl (by kernel_rfl) (by kernel_rfl) (by kernel_rfl) (fun _ _ _ h => h) (yields_of (by rfl) (fun w' _ => ?_)) inferInstance ?_
    rotate_left
    · (first | ((with_reducible apply ev_lookMJ); exact rfl; exact rfl; infer_instance; (exact hid); (exact HL.out); (exact HS.out)))
    try simp only [Act.put, sA]; try simp only [sB, sC]
    refine' takeH (i := 7) (v := _) rfl (by kernel_rfl) (by kernel_rfl) (by kernel_rfl) (fun _ _ _ h => h) (yields_of (by rfl) (fun w' _ => ?_)) inferInstance ?_
    rotate_left
    · (go_simp; try with_reducible rfl)
    try simp only [Act.put, sA]; try simp only [sB, sC]
    refine' takeH (i := 8) (v := _) rfl (by kernel_rfl) (by kernel_rfl) (by kernel_rfl) (fun _ _ _ h => h) (yields_of (by rfl) (fun w' _ => ?_)) inferInstance ?_
    rotate_left
    · (go_simp; try with_reducible rfl)
    try simp only [Act.put, sA]; try simp only [sB, sC]
    refine' takeH (i := 9) (v := _) rfl (by kernel_rfl) (by kernel_rfl) (by kernel_rfl) (fun _ _ _ h => h) (yields_of (by rfl) (fun w' _ => ?_)) inferInstance ?_
    rotate_left
    · (go_simp; try with_reducible rfl)
    try simp only [Act.put, sA]; try simp only [sB, sC]
    refine goH (i := 10) (by kernel_rfl) rfl (fun K_ hK_ => ?_)
    rw [if_pos (by kernel_rfl)]
    refine wpr_of_list ?_
    (first | ((with_reducible apply (wpl_alloc (dst := some 8))); intro zl wzl _ _ _) | ((with_reducible apply wpl_alloc); intro z wz _ _ _))
    refine wpList_nil ?_
    unfold onlyN
    refine hK_.out _ _ inferInstance (fun _ => ?_)
    clear hK_ K_
    try simp only [Act.put, sA]; try simp only [sB, sC]
    refine goH (i := 11) (by kernel_rfl) rfl (fun K_ hK_ => ?_)
    rw [if_pos (by kernel_rfl)]
    refine wpr_of_list ?_
    (first | ((with_reducible apply wpl_storerow); exact rfl; exact rfl; infer_instance; infer_instance; (first | with_reducible assumption | (with_reducible exact H32.size _) | kernel_rfl); (first | with_reducible assumption | (with_reducible exact H32.size _) | kernel_rfl); (first | (with_reducible exact u8s_one _) | with_reducible assumption | kernel_rfl); intro ws _ _) | ((with_reducible apply wpl_storecell); exact rfl; exact rfl; infer_instance; exact rfl; (first | with_reducible assumption | omega | (focus (simp; done)) | (focus (simp; omega; done)) | decide); intro ws _ _) | ((with_reducible apply (wpl_storeint (t := 3))); exact rfl; exact rfl; infer_instance; (first | with_reducible assumption | omega); intro ws _ _) | ((with_reducible apply (wpl_storebyte (t := 5))); exact rfl; exact rfl; infer_instance; (first | with_reducible assumption | omega | (focus (simp; done)) | (focus (simp; omega; done)) | decide); (constructor <;> omega); intro ws _ _))
    refine wpList_nil ?_
    unfold onlyN
    refine hK_.out _ _ inferInstance (fun _ => ?_)
    clear hK_ K_
    try simp only [Act.put]
    refine' takeH (i := 12) (v := _) rfl (by kernel_rfl) (by kernel_rfl) (by kernel_rfl) (fun _ _ _ h => h) (yields_of (by rfl) (fun w' _ => ?_)) inferInstance ?_
    rotate_left
    · (go_simp; try with_reducible rfl)
    try simp only [Act.put, sA]; try simp only [sB, sC]
    refine wpAnyH_done (by kernel_rfl) ?_ _
    have hc0 : Chg nowhere w ws := stepN.chg
    have hJ0 : JS ws z S s := h.calm hc0 (fun _ _ hk => hk)
    have hC0 : Chg S w ws := hc0.mono (fun _ _ hk => hk.elim)
    have hJ1 := hJ0
    have hC1 := hC0
    have hN1 : s.N ≤ 1000000000 := by omega
    have hm1 : s.m ≤ 1000000000 := hm
    have hR1 : HR ws A (bs d) := inferInstance
    have hf1 : HB ws zf 40 #[.int .i64 id, .slice A n c] := inferInstance
    go_wp2_with (first | go_skip | ((with_reducible apply wpl_alloc); intro z wz _ _ _) | ((with_reducible apply wpl_box_agg); exact rfl; intro z wz _ _ _) | ((with_reducible apply wpl_box_int); exact rfl; intro z wz _ _ _) | ((with_reducible apply wpl_box_slice); exact rfl; intro z wz _ _ _) | ((with_reducible apply wpl_box_str); exact rfl; intro z wz _ _ _) | ((with_reducible apply wpl_box_bool); exact rfl; intro z wz _ _ _) | ((with_reducible apply wpl_box_ptr); exact rfl; intro z wz _ _ _) | ((with_reducible apply (wpl_guard (op := .load _ _))); exact rfl) | ((with_reducible apply wpl_loadrow); exact rfl; infer_instance; infer_instance; (first | with_reducible assumption | (with_reducible exact H32.size _) | kernel_rfl)) | ((with_reducible apply wpl_loadcellN); exact rfl; infer_instance; exact rfl) | ((with_reducible apply wpl_storerow); exact rfl; exact rfl; infer_instance; infer_instance; (first | with_reducible assumption | (with_reducible exact H32.size _) | kernel_rfl); (first | with_reducible assumption | (with_reducible exact H32.size _) | kernel_rfl); (first | (with_reducible exact u8s_one _) | with_reducible assumption | kernel_rfl); intro ws _ _) | ((with_reducible apply wpl_storecell); exact rfl; exact rfl; infer_instance; exact rfl; (first | with_reducible assumption | omega | (focus (simp; done)) | (focus (simp; omega; done)) | decide); intro ws _ _))
    refine wp_region_N (nowhere) (by kernel_rfl) (fun wd _ _ => ?_)
    refine' takeH (i := 0) (v := _) rfl (by kernel_rfl) (by kernel_rfl) (by kernel_rfl) (fun _ _ _ h => h) (yields_of (by rfl) (fun w' _ => ?_)) inferInstance ?_
    rotate_left
    · (go_simp; try with_reducible rfl)
    try simp only [Act.put, sA]; try simp only [sB, sC]
    refine' takeH (i := 1) (v := _) rfl (by kernel_rfl) (by kernel_rfl) (by kernel_rfl) (fun _ _ _ h => h) (yields_of (by rfl) (fun w' _ => ?_)) inferInstance ?_
    rotate_left
    · (first | ((with_reducible apply (ev_loadB (t := 5))); exact rfl; infer_instance; infer_instance; (first | with_reducible assumption | omega)) | ((with_reducible apply ev_loadrow); exact rfl; infer_instance; infer_instance; (first | with_reducible assumption | (with_reducible exact H32.size _) | kernel_rfl)) | ((with_reducible apply ev_loadcellN); exact rfl; infer_instance; infer_instance; exact rfl) | ((with_reducible apply (ev_loadint (t := 3))); exact rfl; infer_instance; infer_instance; (first | with_reducible assumption | omega)) | ((with_reducible apply (ev_loadbyte (t := 5))); exact rfl; infer_instance; infer_instance; (first | with_reducible assumption | omega)) | (go_simp; try with_reducible rfl))
    try simp only [Act.put, sA]; try simp only [sB, sC]
    refine' takeH (i := 2) (v := _) rfl (by kernel_rfl) (by kernel_rfl) (by kernel_rfl) (fun _ _ _ h => h) (yields_of (by rfl) (fun w' _ => ?_)) inferInstance ?_
    rotate_left
    · (first | ((with_reducible apply ev_indexB0); exact rfl; infer_instance; infer_instance; (first | with_reducible assumption | omega); (first | with_reducible assumption | omega)) | ((with_reducible apply ev_indexB); exact rfl; exact rfl; infer_instance; infer_instance; (first | with_reducible assumption | omega); (first | with_reducible assumption | omega)) | (go_simp; try with_reducible rfl))
    try simp only [Act.put, sA]; try simp only [sB, sC]
    refine' takeH (i := 3) (v := _) rfl (by kernel_rfl) (by kernel_rfl) (by kernel_rfl) (fun _ _ _ h => h) (yields_of (by rfl) (fun w' _ => ?_)) inferInstance ?_
    rotate_left
    · (first | ((with_reducible apply (ev_loadB (t := 5))); exact rfl; infer_instance; infer_instance; (first | with_reducible assumption | omega)) | ((with_reducible apply ev_loadrow); exact rfl; infer_instance; infer_instance; (first | with_reducible assumption | (with_reducible exact H32.size _) | kernel_rfl)) | ((with_reducible apply ev_loadcellN); exact rfl; infer_instance; infer_instance; exact rfl) | ((with_reducible apply (ev_loadint (t := 3))); exact rfl; infer_instance; infer_instance; (first | with_reducible assumption | omega)) | ((with_reducible apply (ev_loadbyte (t := 5))); exact rfl; infer_instance; infer_instance; (first | with_reducible assumption | omega)) | (go_simp; try with_reducible rfl))
    try simp only [Act.put, sA]; try simp only [sB, sC]
    refine' takeH (i := 4) (v := _) rfl (by kernel_rfl) (by kernel_rfl) (by kernel_rfl) (fun _ _ _ h => h) (yields_of (by rfl) (fun w' _ => ?_)) inferInstance ?_
    rotate_left
    · (go_simp; try with_reducible rfl)
    try simp only [Act.put, sA]; try simp only [sB, sC]
    refine' takeH (i := 5) (v := _) rfl (by kernel_rfl) (by kernel_rfl) (by kernel_rfl) (fun _ _ _ h => h) (yields_of (by rfl) (fun w' _ => ?_)) inferInstance ?_
    rotate_left
    · (go_simp; try with_reducible rfl)
    try simp only [Act.put, sA]; try simp only [sB, sC]
    refine' takeH (i := 6) (v := _) rfl (by kernel_rfl) (by kernel_rfl) (by kernel_rfl) (fun _ _ _ h => h) (yields_of (by rfl) (fun w' _ => ?_)) inferInstance ?_
    rotate_left
    · (go_simp; try with_reducible rfl)
    try simp only [Act.put, sA]; try simp only [sB, sC]
    refine' takeH (i := 7) (v := _) rfl (by kernel_rfl) (by kernel_rfl) (by kernel_rfl) (fun _ _ _ h => h) (yields_of (by rfl) (fun w' _ => ?_)) inferInstance ?_
    rotate_left
    · (first | ((with_reducible apply (ev_loadB (t := 5))); exact rfl; infer_instance; infer_instance; (first | with_reducible assumption | omega)) | ((with_reducible apply ev_loadrow); exact rfl; infer_instance; infer_instance; (first | with_reducible assumption | (with_reducible exact H32.size _) | kernel_rfl)) | ((with_reducible apply ev_loadcellN); exact rfl; infer_instance; infer_instance; exact rfl) | ((with_reducible apply (ev_loadint (t := 3))); exact rfl; infer_instance; infer_instance; (first | with_reducible assumption | omega)) | ((with_reducible apply (ev_loadbyte (t := 5))); exact rfl; infer_instance; infer_instance; (first | with_reducible assumption | omega)) | (go_simp; try with_reducible rfl))
    try simp only [Act.put, sA]; try simp only [sB, sC]
    refine' takeH (i := 8) (v := _) rfl (by kernel_rfl) (by kernel_rfl) (by kernel_rfl) (fun _ _ _ h => h) (yields_of (by rfl) (fun w' _ => ?_)) inferInstance ?_
    rotate_left
    · (first | ((with_reducible apply ev_sl_l1); exact rfl; infer_instance; (first | with_reducible assumption | omega)) | ((with_reducible apply ev_sl_lh); exact rfl; exact rfl; exact rfl; infer_instance; (first | with_reducible assumption | omega); (first | with_reducible assumption | omega)) | ((with_reducible apply ev_sl_h); exact rfl; exact rfl; infer_instance; (first | with_reducible assumption | omega)) | ((with_reducible apply ev_sl_l); exact rfl; exact rfl; infer_instance; (first | with_reducible assumption | omega)) | (go_simp; try with_reducible rfl))
    try simp only [Act.put, sA]; try simp only [sB, sC]
    refine' takeH (i := 9) (v := _) rfl (by kernel_rfl) (by kernel_rfl) (by kernel_rfl) (fun _ _ _ h => h) (yields_of (by rfl) (fun w' _ => ?_)) inferInstance ?_
    rotate_left
    · (go_simp; try with_reducible rfl)
    try simp only [Act.put, sA]; try simp only [sB, sC]
    refine' takeH (i := 10) (v := _) rfl (by kernel_rfl) (by kernel_rfl) (by kernel_rfl) (fun _ _ _ h => h) (yields_of (by rfl) (fun w' _ => ?_)) inferInstance ?_
    rotate_left
    · (go_simp; try with_reducible rfl)
    try simp only [Act.put, sA]; try simp only [sB, sC]
    refine wpAnyH_done (by kernel_rfl) ?_ _
    rw [HW.out]
    have hJ9 : JS wd z S s := hJ1.calm (stepN (w0 := ws) (w := wd)).chg (fun _ _ hk => hk)
    have hC9 : Chg S w wd := hC1.trans (stepN (w0 := ws) (w := wd)).chg (fun _ _ hk => hk.elim)
    have hR9 : HR wd A (bs d) := inferInstance
    go_wp2_with (first | go_skip | ((with_reducible apply wpl_indexB0); exact rfl; infer_instance; infer_instance; (exact hn); omega) | ((with_reducible apply (wpl_loadB (t := 5))); exact rfl; infer_instance; infer_instance; (exact hk0)) | ((with_reducible apply wpl_alloc); intro z wz _ _ _) | ((with_reducible apply wpl_box_agg); exact rfl; intro z wz _ _ _) | ((with_reducible apply wpl_box_int); exact rfl; intro z wz _ _ _) | ((with_reducible apply wpl_box_slice); exact rfl; intro z wz _ _ _) | ((with_reducible apply wpl_box_str); exact rfl; intro z wz _ _ _) | ((with_reducible apply wpl_box_bool); exact rfl; intro z wz _ _ _) | ((with_reducible apply wpl_box_ptr); exact rfl; intro z wz _ _ _) | ((with_reducible apply (wpl_guard (op := .load _ _))); exact rfl) | ((with_reducible apply wpl_loadrow); exact rfl; infer_instance; infer_instance; (first | with_reducible assumption | (with_reducible exact H32.size _) | kernel_rfl)) | ((with_reducible apply wpl_loadcellN); exact rfl; infer_instance; exact rfl) | ((with_reducible apply wpl_storerow); exact rfl; exact rfl; infer_instance; infer_instance; (first | with_reducible assumption | (with_reducible exact H32.size _) | kernel_rfl); (first | with_reducible assumption | (with_reducible exact H32.size _) | kernel_rfl); (first | (with_reducible exact u8s_one _) | with_reducible assumption | kernel_rfl); intro ws _ _) | ((with_reducible apply wpl_storecell); exact rfl; exact rfl; infer_instance; exact rfl; (first | with_reducible assumption | omega | (focus (simp; done)) | (focus (simp; omega; done)) | decide); intro ws _ _))
    refine (further_calls (c := c - 1) id l0 now hJ9 hN1 hm1 hid (HRP _ hR9) HAP hpl (by omega) h16 h3 h4).mono ?_
    rintro e w8 ⟨S8, B8, c8, g1, rfl, g3, g4, g5⟩
    go_wp2_with fail
    go_ret2
    exact TkPost.trans hC9 ⟨S8, B8, c8, g1, rfl, g3, g4, g5⟩
  | some v =>
    obtain ⟨vb, wh, nx, la⟩ := v
    obtain ⟨k1, k2, k3, k4, k5⟩ := h.ok.ok id _ hs
    have hlk : (cellsG s F id).getD zMsgC = msgC (F id) ⟨vb, wh, nx, la⟩ := by rw [cellsG, hs]; rfl
    rw [hs] at hss
    have HS := Lib.hid hss
    clear hss
    obtain ⟨pA, hpA⟩ : ∃ x, (F id).A = x := ⟨_, rfl⟩
    obtain ⟨pc, hpc⟩ : ∃ x, (F id).c = x := ⟨_, rfl⟩
    obtain ⟨nb, hnb⟩ : ∃ x, vb.length = x := ⟨_, rfl⟩
    simp only [msgC] at hlk k4 k5
    rw [hpA, hpc, hnb] at hlk
    have HL := Lib.hid hlk
    clear hlk hpA hpc hnb
    cases hst : staleB la now with
    | false =>
      rw [late_some hs (show staleB la now = false from hst)]
      go_enter Try.func17, Try.ntmps17
      go_wp2_with (first | go_skip | ((with_reducible apply (wpl_alloc (dst := some 4))); intro zf wzf _ _ _) | ((with_reducible apply (wpl_box_agg (dst := some 4))); exact rfl; intro zf wzf _ _ _) | ((with_reducible apply (wpl_box_int (dst := some 4))); exact rfl; intro zf wzf _ _ _) | ((with_reducible apply (wpl_box_slice (dst := some 4))); exact rfl; intro zf wzf _ _ _) | ((with_reducible apply (wpl_box_str (dst := some 4))); exact rfl; intro zf wzf _ _ _) | ((with_reducible apply (wpl_box_bool (dst := some 4))); exact rfl; intro zf wzf _ _ _) | ((with_reducible apply (wpl_box_ptr (dst := some 4))); exact rfl; intro zf wzf _ _ _) | ((with_reducible apply wpl_alloc); intro z wz _ _ _) | ((with_reducible apply wpl_box_agg); exact rfl; intro z wz _ _ _) | ((with_reducible apply wpl_box_int); exact rfl; intro z wz _ _ _) | ((with_reducible apply wpl_box_slice); exact rfl; intro z wz _ _ _) | ((with_reducible apply wpl_box_str); exact rfl; intro z wz _ _ _) | ((with_reducible apply wpl_box_bool); exact rfl; intro z wz _ _ _) | ((with_reducible apply wpl_box_ptr); exact rfl; intro z wz _ _ _) | ((with_reducible apply (wpl_guard (op := .load _ _))); exact rfl) | ((with_reducible apply wpl_loadrow); exact rfl; infer_instance; infer_instance; (first | with_reducible assumption | (with_reducible exact H32.size _) | kernel_rfl)) | ((with_reducible apply wpl_loadcellN); exact rfl; infer_instance; exact rfl) | ((with_reducible apply wpl_storerow); exact rfl; exact rfl; infer_instance; infer_instance; (first | with_reducible assumption | (with_reducible exact H32.size _) | kernel_rfl); (first | with_reducible assumption | (with_reducible exact H32.size _) | kernel_rfl); (first | (with_reducible exact u8s_one _) | with_reducible assumption | kernel_rfl); intro ws _ _) | ((with_reducible apply wpl_storecell); exact rfl; exact rfl; infer_instance; exact rfl; (first | with_reducible assumption | omega | (focus (simp; done)) | (focus (simp; omega; done)) | decide); intro ws _ _))
      refine wp_region_N (nowhere) (by kernel_rfl) (fun wd _ _ => ?_)
      refine' takeH (i := 0) (v := _) rfl (by kernel_rfl) (by kernel_rfl) (by kernel_rfl) (fun _ _ _ h => h) (yields_of (by rfl) (fun w' _ => ?_)) inferInstance ?_
      rotate_left
      · (go_simp; try with_reducible rfl)
      try simp only [Act.put, sA]; try simp only [sB, sC]
      refine' takeH (i := 1) (v := _) rfl (by kernel_rfl) (by kernel_rfl) (by kernel_rfl) (fun _ _ _ h => h) (yields_of (by rfl) (fun w' _ => ?_)) inferInstance ?_
      rotate_left
      · (go_simp; try with_reducible rfl)
      try simp only [Act.put, sA]; try simp only [sB, sC]
      refine' takeH (i := 2) (v := _) rfl (by kernel_rfl) (by kernel_rfl) (by kernel_rfl) (fun _ _ _ h => h) (yields_of (by rfl) (fun w' _ => ?_)) inferInstance ?_
      rotate_left
      · (go_simp; try with_reducible rfl)
      try simp only [Act.put, sA]; try simp only [sB, sC]
      refine' takeH (i := 3) (v := _) rfl (by kernel_rfl) (by kernel_rfl) (by kernel_rfl) (fun _ _ _ h => h) (yields_of (by rfl) (fun w' _ => ?_)) inferInstance ?_
      rotate_left
      · (first | ((with_reducible apply (ev_loadB (t := 5))); exact rfl; infer_instance; infer_instance; (first | with_reducible assumption | omega)) | ((with_reducible apply ev_loadrow); exact rfl; infer_instance; infer_instance; (first | with_reducible assumption | (with_reducible exact H32.size _) | kernel_rfl)) | ((with_reducible apply ev_loadcellN); exact rfl; infer_instance; infer_instance; exact rfl) | ((with_reducible apply (ev_loadint (t := 3))); exact rfl; infer_instance; infer_instance; (first | with_reducible assumption | omega)) | ((with_reducible apply (ev_loadbyte (t := 5))); exact rfl; infer_instance; infer_instance; (first | with_reducible assumption | omega)) | (go_simp; try with_reducible rfl))
      try simp only [Act.put, sA]; try simp only [sB, sC]
      refine' takeH (i := 4) (v := _) rfl (by kernel_rfl) (by kernel_rfl) (by kernel_rfl) (fun _ _ _ h => h) (yields_of (by rfl) (fun w' _ => ?_)) inferInstance ?_
      rotate_left
      · (go_simp; try with_reducible rfl)
      try simp only [Act.put, sA]; try simp only [sB, sC]
      refine' takeH (i := 5) (v := _) rfl (by kernel_rfl) (by kernel_rfl) (by kernel_rfl) (fun _ _ _ h => h) (yields_of (by rfl) (fun w' _ => ?_)) inferInstance ?_
      rotate_left
      · (first | ((with_reducible apply (ev_loadB (t := 5))); exact rfl; infer_instance; infer_instance; (first | with_reducible assumption | omega)) | ((with_reducible apply ev_loadrow); exact rfl; infer_instance; infer_instance; (first | with_reducible assumption | (with_reducible exact H32.size _) | kernel_rfl)) | ((with_reducible apply ev_loadcellN); exact rfl; infer_instance; infer_instance; exact rfl) | ((with_reducible apply (ev_loadint (t := 3))); exact rfl; infer_instance; infer_instance; (first | with_reducible assumption | omega)) | ((with_reducible apply (ev_loadbyte (t := 5))); exact rfl; infer_instance; infer_instance; (first | with_reducible assumption | omega)) | (go_simp; try with_reducible rfl))
      try simp only [Act.put, sA]; try simp only [sB, sC]
      refine' takeH (i := 6) (v := _) rfl (by kernel_rfl) (by kernel_rfl) (by kernel_rfl) (fun _ _ _ h => h) (yields_of (by rfl) (fun w' _ => ?_)) inferInstance ?_
      rotate_left
      · (first | ((with_reducible apply ev_lookMJ); exact rfl; exact rfl; infer_instance; (exact hid); (exact HL.out); (exact HS.out)))
      try simp only [Act.put, sA]; try simp only [sB, sC]
      refine' takeH (i := 7) (v := _) rfl (by kernel_rfl) (by kernel_rfl) (by kernel_rfl) (fun _ _ _ h => h) (yields_of (by rfl) (fun w' _ => ?_)) inferInstance ?_
      rotate_left
      · (go_simp; try with_reducible rfl)
      try simp only [Act.put, sA]; try simp only [sB, sC]
      refine' takeH (i := 8) (v := _) rfl (by kernel_rfl) (by kernel_rfl) (by kernel_rfl) (fun _ _ _ h => h) (yields_of (by rfl) (fun w' _ => ?_)) inferInstance ?_
      rotate_left
      · (go_simp; try with_reducible rfl)
      try simp only [Act.put, sA]; try simp only [sB, sC]
      refine' takeH (i := 9) (v := _) rfl (by kernel_rfl) (by kernel_rfl) (by kernel_rfl) (fun _ _ _ h => h) (yields_of (by rfl) (fun w' _ => ?_)) inferInstance ?_
      rotate_left
      · (go_simp; try with_reducible rfl)
      try simp only [Act.put, sA]; try simp only [sB, sC]
      refine goH (i := 10) (by kernel_rfl) rfl (fun K_ hK_ => ?_)
      rw [if_pos (by kernel_rfl)]
      refine wpr_of_list ?_
      (first | ((with_reducible apply (wpl_alloc (dst := some 8))); intro zl wzl _ _ _) | ((with_reducible apply wpl_alloc); intro z wz _ _ _))
      refine wpList_nil ?_
      unfold onlyN
      refine hK_.out _ _ inferInstance (fun _ => ?_)
      clear hK_ K_
      try simp only [Act.put, sA]; try simp only [sB, sC]
      refine goH (i := 11) (by kernel_rfl) rfl (fun K_ hK_ => ?_)
      rw [if_pos (by kernel_rfl)]
      refine wpr_of_list ?_
      (first | ((with_reducible apply wpl_storerow); exact rfl; exact rfl; infer_instance; infer_instance; (first | with_reducible assumption | (with_reducible exact H32.size _) | kernel_rfl); (first | with_reducible assumption | (with_reducible exact H32.size _) | kernel_rfl); (first | (with_reducible exact u8s_one _) | with_reducible assumption | kernel_rfl); intro ws _ _) | ((with_reducible apply wpl_storecell); exact rfl; exact rfl; infer_instance; exact rfl; (first | with_reducible assumption | omega | (focus (simp; done)) | (focus (simp; omega; done)) | decide); intro ws _ _) | ((with_reducible apply (wpl_storeint (t := 3))); exact rfl; exact rfl; infer_instance; (first | with_reducible assumption | omega); intro ws _ _) | ((with_reducible apply (wpl_storebyte (t := 5))); exact rfl; exact rfl; infer_instance; (first | with_reducible assumption | omega | (focus (simp; done)) | (focus (simp; omega; done)) | decide); (constructor <;> omega); intro ws _ _))
      refine wpList_nil ?_
      unfold onlyN
      refine hK_.out _ _ inferInstance (fun _ => ?_)
      clear hK_ K_
      try simp only [Act.put]
      refine' takeH (i := 12) (v := _) rfl (by kernel_rfl) (by kernel_rfl) (by kernel_rfl) (fun _ _ _ h => h) (yields_of (by rfl) (fun w' _ => ?_)) inferInstance ?_
      rotate_left
      · (go_simp; try with_reducible rfl)
      try simp only [Act.put, sA]; try simp only [sB, sC]
      refine wpAnyH_done (by kernel_rfl) ?_ _
      have hc0 : Chg nowhere w ws := stepN.chg
      have hJ0 : JS ws z S s := h.calm hc0 (fun _ _ hk => hk)
      have hC0 : Chg S w ws := hc0.mono (fun _ _ hk => hk.elim)
      go_wp2_with (first | go_skip | ((with_reducible apply wpl_alloc); intro z wz _ _ _) | ((with_reducible apply wpl_box_agg); exact rfl; intro z wz _ _ _) | ((with_reducible apply wpl_box_int); exact rfl; intro z wz _ _ _) | ((with_reducible apply wpl_box_slice); exact rfl; intro z wz _ _ _) | ((with_reducible apply wpl_box_str); exact rfl; intro z wz _ _ _) | ((with_reducible apply wpl_box_bool); exact rfl; intro z wz _ _ _) | ((with_reducible apply wpl_box_ptr); exact rfl; intro z wz _ _ _) | ((with_reducible apply (wpl_guard (op := .load _ _))); exact rfl) | ((with_reducible apply wpl_loadrow); exact rfl; infer_instance; infer_instance; (first | with_reducible assumption | (with_reducible exact H32.size _) | kernel_rfl)) | ((with_reducible apply wpl_loadcellN); exact rfl; infer_instance; exact rfl) | ((with_reducible apply wpl_storerow); exact rfl; exact rfl; infer_instance; infer_instance; (first | with_reducible assumption | (with_reducible exact H32.size _) | kernel_rfl); (first | with_reducible assumption | (with_reducible exact H32.size _) | kernel_rfl); (first | (with_reducible exact u8s_one _) | with_reducible assumption | kernel_rfl); intro ws _ _) | ((with_reducible apply wpl_storecell); exact rfl; exact rfl; infer_instance; exact rfl; (first | with_reducible assumption | omega | (focus (simp; done)) | (focus (simp; omega; done)) | decide); intro ws _ _))
      refine (stale_calls (A := pA) (n := nb) (c := pc) (wh : Int) (nx : Int) la now k4 k5 h3 h4).mono ?_
      rintro e w5 ⟨rfl, hs5⟩
      rw [hst]
      have hJ5 : JS w5 z S s := hJ0.calm hs5.chg (fun _ _ hk => hk)
      have hC5 : Chg S w w5 := hC0.trans hs5.chg (fun _ _ hk => hk.elim)
      have hJ1 := hJ5
      have hC1 := hC5
      have hN1 : s.N ≤ 1000000000 := by omega
      have hm1 : s.m ≤ 1000000000 := hm
      have hR1 : HR w5 A (bs d) := inferInstance
      have hf1 : HB w5 zf 40 #[.int .i64 id, .slice A n c] := inferInstance
      go_wp2_with (first | go_skip | ((with_reducible apply wpl_alloc); intro z wz _ _ _) | ((with_reducible apply wpl_box_agg); exact rfl; intro z wz _ _ _) | ((with_reducible apply wpl_box_int); exact rfl; intro z wz _ _ _) | ((with_reducible apply wpl_box_slice); exact rfl; intro z wz _ _ _) | ((with_reducible apply wpl_box_str); exact rfl; intro z wz _ _ _) | ((with_reducible apply wpl_box_bool); exact rfl; intro z wz _ _ _) | ((with_reducible apply wpl_box_ptr); exact rfl; intro z wz _ _ _) | ((with_reducible apply (wpl_guard (op := .load _ _))); exact rfl) | ((with_reducible apply wpl_loadrow); exact rfl; infer_instance; infer_instance; (first | with_reducible assumption | (with_reducible exact H32.size _) | kernel_rfl)) | ((with_reducible apply wpl_loadcellN); exact rfl; infer_instance; exact rfl) | ((with_reducible apply wpl_storerow); exact rfl; exact rfl; infer_instance; infer_instance; (first | with_reducible assumption | (with_reducible exact H32.size _) | kernel_rfl); (first | with_reducible assumption | (with_reducible exact H32.size _) | kernel_rfl); (first | (with_reducible exact u8s_one _) | with_reducible assumption | kernel_rfl); intro ws _ _) | ((with_reducible apply wpl_storecell); exact rfl; exact rfl; infer_instance; exact rfl; (first | with_reducible assumption | omega | (focus (simp; done)) | (focus (simp; omega; done)) | decide); intro ws _ _))
      refine wp_region_N (nowhere) (by kernel_rfl) (fun wd _ _ => ?_)
      refine' takeH (i := 0) (v := _) rfl (by kernel_rfl) (by kernel_rfl) (by kernel_rfl) (fun _ _ _ h => h) (yields_of (by rfl) (fun w' _ => ?_)) inferInstance ?_
      rotate_left
      · (go_simp; try with_reducible rfl)
      try simp only [Act.put, sA]; try simp only [sB, sC]
      refine' takeH (i := 1) (v := _) rfl (by kernel_rfl) (by kernel_rfl) (by kernel_rfl) (fun _ _ _ h => h) (yields_of (by rfl) (fun w' _ => ?_)) inferInstance ?_
      rotate_left
      · (first | ((with_reducible apply (ev_loadB (t := 5))); exact rfl; infer_instance; infer_instance; (first | with_reducible assumption | omega)) | ((with_reducible apply ev_loadrow); exact rfl; infer_instance; infer_instance; (first | with_reducible assumption | (with_reducible exact H32.size _) | kernel_rfl)) | ((with_reducible apply ev_loadcellN); exact rfl; infer_instance; infer_instance; exact rfl) | ((with_reducible apply (ev_loadint (t := 3))); exact rfl; infer_instance; infer_instance; (first | with_reducible assumption | omega)) | ((with_reducible apply (ev_loadbyte (t := 5))); exact rfl; infer_instance; infer_instance; (first | with_reducible assumption | omega)) | (go_simp; try with_reducible rfl))
      try simp only [Act.put, sA]; try simp only [sB, sC]
      refine' takeH (i := 2) (v := _) rfl (by kernel_rfl) (by kernel_rfl) (by kernel_rfl) (fun _ _ _ h => h) (yields_of (by rfl) (fun w' _ => ?_)) inferInstance ?_
      rotate_left
      · (first | ((with_reducible apply ev_indexB0); exact rfl; infer_instance; infer_instance; (first | with_reducible assumption | omega); (first | with_reducible assumption | omega)) | ((with_reducible apply ev_indexB); exact rfl; exact rfl; infer_instance; infer_instance; (first | with_reducible assumption | omega); (first | with_reducible assumption | omega)) | (go_simp; try with_reducible rfl))
      try simp only [Act.put, sA]; try simp only [sB, sC]
      refine' takeH (i := 3) (v := _) rfl (by kernel_rfl) (by kernel_rfl) (by kernel_rfl) (fun _ _ _ h => h) (yields_of (by rfl) (fun w' _ => ?_)) inferInstance ?_
      rotate_left
      · (first | ((with_reducible apply (ev_loadB (t := 5))); exact rfl; infer_instance; infer_instance; (first | with_reducible assumption | omega)) | ((with_reducible apply ev_loadrow); exact rfl; infer_instance; infer_instance; (first | with_reducible assumption | (with_reducible exact H32.size _) | kernel_rfl)) | ((with_reducible apply ev_loadcellN); exact rfl; infer_instance; infer_instance; exact rfl) | ((with_reducible apply (ev_loadint (t := 3))); exact rfl; infer_instance; infer_instance; (first | with_reducible assumption | omega)) | ((with_reducible apply (ev_loadbyte (t := 5))); exact rfl; infer_instance; infer_instance; (first | with_reducible assumption | omega)) | (go_simp; try with_reducible rfl))
      try simp only [Act.put, sA]; try simp only [sB, sC]
      refine' takeH (i := 4) (v := _) rfl (by kernel_rfl) (by kernel_rfl) (by kernel_rfl) (fun _ _ _ h => h) (yields_of (by rfl) (fun w' _ => ?_)) inferInstance ?_
      rotate_left
      · (go_simp; try with_reducible rfl)
      try simp only [Act.put, sA]; try simp only [sB, sC]
      refine' takeH (i := 5) (v := _) rfl (by kernel_rfl) (by kernel_rfl) (by kernel_rfl) (fun _ _ _ h => h) (yields_of (by rfl) (fun w' _ => ?_)) inferInstance ?_
      rotate_left
      · (go_simp; try with_reducible rfl)
      try simp only [Act.put, sA]; try simp only [sB, sC]
      refine' takeH (i := 6) (v := _) rfl (by kernel_rfl) (by kernel_rfl) (by kernel_rfl) (fun _ _ _ h => h) (yields_of (by rfl) (fun w' _ => ?_)) inferInstance ?_
      rotate_left
      · (go_simp; try with_reducible rfl)
      try simp only [Act.put, sA]; try simp only [sB, sC]
      refine' takeH (i := 7) (v := _) rfl (by kernel_rfl) (by kernel_rfl) (by kernel_rfl) (fun _ _ _ h => h) (yields_of (by rfl) (fun w' _ => ?_)) inferInstance ?_
      rotate_left
      · (first | ((with_reducible apply (ev_loadB (t := 5))); exact rfl; infer_instance; infer_instance; (first | with_reducible assumption | omega)) | ((with_reducible apply ev_loadrow); exact rfl; infer_instance; infer_instance; (first | with_reducible assumption | (with_reducible exact H32.size _) | kernel_rfl)) | ((with_reducible apply ev_loadcellN); exact rfl; infer_instance; infer_instance; exact rfl) | ((with_reducible apply (ev_loadint (t := 3))); exact rfl; infer_instance; infer_instance; (first | with_reducible assumption | omega)) | ((with_reducible apply (ev_loadbyte (t := 5))); exact rfl; infer_instance; infer_instance; (first | with_reducible assumption | omega)) | (go_simp; try with_reducible rfl))
      try simp only [Act.put, sA]; try simp only [sB, sC]
      refine' takeH (i := 8) (v := _) rfl (by kernel_rfl) (by kernel_rfl) (by kernel_rfl) (fun _ _ _ h => h) (yields_of (by rfl) (fun w' _ => ?_)) inferInstance ?_
      rotate_left
      · (first | ((with_reducible apply ev_sl_l1); exact rfl; infer_instance; (first | with_reducible assumption | omega)) | ((with_reducible apply ev_sl_lh); exact rfl; exact rfl; exact rfl; infer_instance; (first | with_reducible assumption | omega); (first | with_reducible assumption | omega)) | ((with_reducible apply ev_sl_h); exact rfl; exact rfl; infer_instance; (first | with_reducible assumption | omega)) | ((with_reducible apply ev_sl_l); exact rfl; exact rfl; infer_instance; (first | with_reducible assumption | omega)) | (go_simp; try with_reducible rfl))
      try simp only [Act.put, sA]; try simp only [sB, sC]
      refine' takeH (i := 9) (v := _) rfl (by kernel_rfl) (by kernel_rfl) (by kernel_rfl) (fun _ _ _ h => h) (yields_of (by rfl) (fun w' _ => ?_)) inferInstance ?_
      rotate_left
      · (go_simp; try with_reducible rfl)
      try simp only [Act.put, sA]; try simp only [sB, sC]
      refine' takeH (i := 10) (v := _) rfl (by kernel_rfl) (by kernel_rfl) (by kernel_rfl) (fun _ _ _ h => h) (yields_of (by rfl) (fun w' _ => ?_)) inferInstance ?_
      rotate_left
      · (go_simp; try with_reducible rfl)
      try simp only [Act.put, sA]; try simp only [sB, sC]
      refine wpAnyH_done (by kernel_rfl) ?_ _
      rw [HW.out]
      have hJ9 : JS wd z S s := hJ1.calm (stepN (w0 := w5) (w := wd)).chg (fun _ _ hk => hk)
      have hC9 : Chg S w wd := hC1.trans (stepN (w0 := w5) (w := wd)).chg (fun _ _ hk => hk.elim)
      have hR9 : HR wd A (bs d) := inferInstance
      go_wp2_with (first | go_skip | ((with_reducible apply wpl_indexB0); exact rfl; infer_instance; infer_instance; (exact hn); omega) | ((with_reducible apply (wpl_loadB (t := 5))); exact rfl; infer_instance; infer_instance; (exact hk0)) | ((with_reducible apply wpl_alloc); intro z wz _ _ _) | ((with_reducible apply wpl_box_agg); exact rfl; intro z wz _ _ _) | ((with_reducible apply wpl_box_int); exact rfl; intro z wz _ _ _) | ((with_reducible apply wpl_box_slice); exact rfl; intro z wz _ _ _) | ((with_reducible apply wpl_box_str); exact rfl; intro z wz _ _ _) | ((with_reducible apply wpl_box_bool); exact rfl; intro z wz _ _ _) | ((with_reducible apply wpl_box_ptr); exact rfl; intro z wz _ _ _) | ((with_reducible apply (wpl_guard (op := .load _ _))); exact rfl) | ((with_reducible apply wpl_loadrow); exact rfl; infer_instance; infer_instance; (first | with_reducible assumption | (with_reducible exact H32.size _) | kernel_rfl)) | ((with_reducible apply wpl_loadcellN); exact rfl; infer_instance; exact rfl) | ((with_reducible apply wpl_storerow); exact rfl; exact rfl; infer_instance; infer_instance; (first | with_reducible assumption | (with_reducible exact H32.size _) | kernel_rfl); (first | with_reducible assumption | (with_reducible exact H32.size _) | kernel_rfl); (first | (with_reducible exact u8s_one _) | with_reducible assumption | kernel_rfl); intro ws _ _) | ((with_reducible apply wpl_storecell); exact rfl; exact rfl; infer_instance; exact rfl; (first | with_reducible assumption | omega | (focus (simp; done)) | (focus (simp; omega; done)) | decide); intro ws _ _))
      refine (further_calls (c := c - 1) id l0 now hJ9 hN1 hm1 hid (HRP _ hR9) HAP hpl (by omega) h16 h3 h4).mono ?_
      rintro e w8 ⟨S8, B8, c8, g1, rfl, g3, g4, g5⟩
      go_wp2_with fail
      go_ret2
      exact TkPost.trans hC9 ⟨S8, B8, c8, g1, rfl, g3, g4, g5⟩
    | true =>
      rw [late_drop hs (show staleB la now = true from hst)]
      go_enter Try.func17, Try.ntmps17
      go_wp2_with (first | go_skip | ((with_reducible apply (wpl_alloc (dst := some 4))); intro zf wzf _ _ _) | ((with_reducible apply (wpl_box_agg (dst := some 4))); exact rfl; intro zf wzf _ _ _) | ((with_reducible apply (wpl_box_int (dst := some 4))); exact rfl; intro zf wzf _ _ _) | ((with_reducible apply (wpl_box_slice (dst := some 4))); exact rfl; intro zf wzf _ _ _) | ((with_reducible apply (wpl_box_str (dst := some 4))); exact rfl; intro zf wzf _ _ _) | ((with_reducible apply (wpl_box_bool (dst := some 4))); exact rfl; intro zf wzf _ _ _) | ((with_reducible apply (wpl_box_ptr (dst := some 4))); exact rfl; intro zf wzf _ _ _) | ((with_reducible apply wpl_alloc); intro z wz _ _ _) | ((with_reducible apply wpl_box_agg); exact rfl; intro z wz _ _ _) | ((with_reducible apply wpl_box_int); exact rfl; intro z wz _ _ _) | ((with_reducible apply wpl_box_slice); exact rfl; intro z wz _ _ _) | ((with_reducible apply wpl_box_str); exact rfl; intro z wz _ _ _) | ((with_reducible apply wpl_box_bool); exact rfl; intro z wz _ _ _) | ((with_reducible apply wpl_box_ptr); exact rfl; intro z wz _ _ _) | ((with_reducible apply (wpl_guard (op := .load _ _))); exact rfl) | ((with_reducible apply wpl_loadrow); exact rfl; infer_instance; infer_instance; (first | with_reducible assumption | (with_reducible exact H32.size _) | kernel_rfl)) | ((with_reducible apply wpl_loadcellN); exact rfl; infer_instance; exact rfl) | ((with_reducible apply wpl_storerow); exact rfl; exact rfl; infer_instance; infer_instance; (first | with_reducible assumption | (with_reducible exact H32.size _) | kernel_rfl); (first | with_reducible assumption | (with_reducible exact H32.size _) | kernel_rfl); (first | (with_reducible exact u8s_one _) | with_reducible assumption | kernel_rfl); intro ws _ _) | ((with_reducible apply wpl_storecell); exact rfl; exact rfl; infer_instance; exact rfl; (first | with_reducible assumption | omega | (focus (simp; done)) | (focus (simp; omega; done)) | decide); intro ws _ _))
      refine wp_region_N (nowhere) (by kernel_rfl) (fun wd _ _ => ?_)
      refine' takeH (i := 0) (v := _) rfl (by kernel_rfl) (by kernel_rfl) (by kernel_rfl) (fun _ _ _ h => h) (yields_of (by rfl) (fun w' _ => ?_)) inferInstance ?_
      rotate_left
      · (go_simp; try with_reducible rfl)
      try simp only [Act.put, sA]; try simp only [sB, sC]
      refine' takeH (i := 1) (v := _) rfl (by kernel_rfl) (by kernel_rfl) (by kernel_rfl) (fun _ _ _ h => h) (yields_of (by rfl) (fun w' _ => ?_)) inferInstance ?_
      rotate_left
      · (go_simp; try with_reducible rfl)
      try simp only [Act.put, sA]; try simp only [sB, sC]
      refine' takeH (i := 2) (v := _) rfl (by kernel_rfl) (by kernel_rfl) (by kernel_rfl) (fun _ _ _ h => h) (yields_of (by rfl) (fun w' _ => ?_)) inferInstance ?_
      rotate_left
      · (go_simp; try with_reducible rfl)
      try simp only [Act.put, sA]; try simp only [sB, sC]
      refine' takeH (i := 3) (v := _) rfl (by kernel_rfl) (by kernel_rfl) (by kernel_rfl) (fun _ _ _ h => h) (yields_of (by rfl) (fun w' _ => ?_)) inferInstance ?_
      rotate_left
      · (first | ((with_reducible apply (ev_loadB (t := 5))); exact rfl; infer_instance; infer_instance; (first | with_reducible assumption | omega)) | ((with_reducible apply ev_loadrow); exact rfl; infer_instance; infer_instance; (first | with_reducible assumption | (with_reducible exact H32.size _) | kernel_rfl)) | ((with_reducible apply ev_loadcellN); exact rfl; infer_instance; infer_instance; exact rfl) | ((with_reducible apply (ev_loadint (t := 3))); exact rfl; infer_instance; infer_instance; (first | with_reducible assumption | omega)) | ((with_reducible apply (ev_loadbyte (t := 5))); exact rfl; infer_instance; infer_instance; (first | with_reducible assumption | omega)) | (go_simp; try with_reducible rfl))
      try simp only [Act.put, sA]; try simp only [sB, sC]
      refine' takeH (i := 4) (v := _) rfl (by kernel_rfl) (by kernel_rfl) (by kernel_rfl) (fun _ _ _ h => h) (yields_of (by rfl) (fun w' _ => ?_)) inferInstance ?_
      rotate_left
      · (go_simp; try with_reducible rfl)
      try simp only [Act.put, sA]; try simp only [sB, sC]
      refine' takeH (i := 5) (v := _) rfl (by kernel_rfl) (by kernel_rfl) (by kernel_rfl) (fun _ _ _ h => h) (yields_of (by rfl) (fun w' _ => ?_)) inferInstance ?_
      rotate_left
      · (first | ((with_reducible apply (ev_loadB (t := 5))); exact rfl; infer_instance; infer_instance; (first | with_reducible assumption | omega)) | ((with_reducible apply ev_loadrow); exact rfl; infer_instance; infer_instance; (first | with_reducible assumption | (with_reducible exact H32.size _) | kernel_rfl)) | ((with_reducible apply ev_loadcellN); exact rfl; infer_instance; infer_instance; exact rfl) | ((with_reducible apply (ev_loadint (t := 3))); exact rfl; infer_instance; infer_instance; (first | with_reducible assumption | omega)) | ((with_reducible apply (ev_loadbyte (t := 5))); exact rfl; infer_instance; infer_instance; (first | with_reducible assumption | omega)) | (go_simp; try with_reducible rfl))
      try simp only [Act.put, sA]; try simp only [sB, sC]
      refine' takeH (i := 6) (v := _) rfl (by kernel_rfl) (by kernel_rfl) (by kernel_rfl) (fun _ _ _ h => h) (yields_of (by rfl) (fun w' _ => ?_)) inferInstance ?_
      rotate_left
      · (first | ((with_reducible apply ev_lookMJ); exact rfl; exact rfl; infer_instance; (exact hid); (exact HL.out); (exact HS.out)))
      try simp only [Act.put, sA]; try simp only [sB, sC]
      refine' takeH (i := 7) (v := _) rfl (by kernel_rfl) (by kernel_rfl) (by kernel_rfl) (fun _ _ _ h => h) (yields_of (by rfl) (fun w' _ => ?_)) inferInstance ?_
      rotate_left
      · (go_simp; try with_reducible rfl)
      try simp only [Act.put, sA]; try simp only [sB, sC]
      refine' takeH (i := 8) (v := _) rfl (by kernel_rfl) (by kernel_rfl) (by kernel_rfl) (fun _ _ _ h => h) (yields_of (by rfl) (fun w' _ => ?_)) inferInstance ?_
      rotate_left
      · (go_simp; try with_reducible rfl)
      try simp only [Act.put, sA]; try simp only [sB, sC]
      refine' takeH (i := 9) (v := _) rfl (by kernel_rfl) (by kernel_rfl) (by kernel_rfl) (fun _ _ _ h => h) (yields_of (by rfl) (fun w' _ => ?_)) inferInstance ?_
      rotate_left
      · (go_simp; try with_reducible rfl)
      try simp only [Act.put, sA]; try simp only [sB, sC]
      refine goH (i := 10) (by kernel_rfl) rfl (fun K_ hK_ => ?_)
      rw [if_pos (by kernel_rfl)]
      refine wpr_of_list ?_
      (first | ((with_reducible apply (wpl_alloc (dst := some 8))); intro zl wzl _ _ _) | ((with_reducible apply wpl_alloc); intro z wz _ _ _))
      refine wpList_nil ?_
      unfold onlyN
      refine hK_.out _ _ inferInstance (fun _ => ?_)
      clear hK_ K_
      try simp only [Act.put, sA]; try simp only [sB, sC]
      refine goH (i := 11) (by kernel_rfl) rfl (fun K_ hK_ => ?_)
      rw [if_pos (by kernel_rfl)]
      refine wpr_of_list ?_
      (first | ((with_reducible apply wpl_storerow); exact rfl; exact rfl; infer_instance; infer_instance; (first | with_reducible assumption | (with_reducible exact H32.size _) | kernel_rfl); (first | with_reducible assumption | (with_reducible exact H32.size _) | kernel_rfl); (first | (with_reducible exact u8s_one _) | with_reducible assumption | kernel_rfl); intro ws _ _) | ((with_reducible apply wpl_storecell); exact rfl; exact rfl; infer_instance; exact rfl; (first | with_reducible assumption | omega | (focus (simp; done)) | (focus (simp; omega; done)) | decide); intro ws _ _) | ((with_reducible apply (wpl_storeint (t := 3))); exact rfl; exact rfl; infer_instance; (first | with_reducible assumption | omega); intro ws _ _) | ((with_reducible apply (wpl_storebyte (t := 5))); exact rfl; exact rfl; infer_instance; (first | with_reducible assumption | omega | (focus (simp; done)) | (focus (simp; omega; done)) | decide); (constructor <;> omega); intro ws _ _))
      refine wpList_nil ?_
      unfold onlyN
      refine hK_.out _ _ inferInstance (fun _ => ?_)
      clear hK_ K_
      try simp only [Act.put]
      refine' takeH (i := 12) (v := _) rfl (by kernel_rfl) (by kernel_rfl) (by kernel_rfl) (fun _ _ _ h => h) (yields_of (by rfl) (fun w' _ => ?_)) inferInstance ?_
      rotate_left
      · (go_simp; try with_reducible rfl)
      try simp only [Act.put, sA]; try simp only [sB, sC]
      refine wpAnyH_done (by kernel_rfl) ?_ _
      have hc0 : Chg nowhere w ws := stepN.chg
      have hJ0 : JS ws z S s := h.calm hc0 (fun _ _ hk => hk)
      have hC0 : Chg S w ws := hc0.mono (fun _ _ hk => hk.elim)
      go_wp2_with (first | go_skip | ((with_reducible apply wpl_alloc); intro z wz _ _ _) | ((with_reducible apply wpl_box_agg); exact rfl; intro z wz _ _ _) | ((with_reducible apply wpl_box_int); exact rfl; intro z wz _ _ _) | ((with_reducible apply wpl_box_slice); exact rfl; intro z wz _ _ _) | ((with_reducible apply wpl_box_str); exact rfl; intro z wz _ _ _) | ((with_reducible apply wpl_box_bool); exact rfl; intro z wz _ _ _) | ((with_reducible apply wpl_box_ptr); exact rfl; intro z wz _ _ _) | ((with_reducible apply (wpl_guard (op := .load _ _))); exact rfl) | ((with_reducible apply wpl_loadrow); exact rfl; infer_instance; infer_instance; (first | with_reducible assumption | (with_reducible exact H32.size _) | kernel_rfl)) | ((with_reducible apply wpl_loadcellN); exact rfl; infer_instance; exact rfl) | ((with_reducible apply wpl_storerow); exact rfl; exact rfl; infer_instance; infer_instance; (first | with_reducible assumption | (with_reducible exact H32.size _) | kernel_rfl); (first | with_reducible assumption | (with_reducible exact H32.size _) | kernel_rfl); (first | (with_reducible exact u8s_one _) | with_reducible assumption | kernel_rfl); intro ws _ _) | ((with_reducible apply wpl_storecell); exact rfl; exact rfl; infer_instance; exact rfl; (first | with_reducible assumption | omega | (focus (simp; done)) | (focus (simp; omega; done)) | decide); intro ws _ _))
      refine (stale_calls (A := pA) (n := nb) (c := pc) (wh : Int) (nx : Int) la now k4 k5 h3 h4).mono ?_
      rintro e w5 ⟨rfl, hs5⟩
      rw [hst]
      have hJ5 : JS w5 z S s := hJ0.calm hs5.chg (fun _ _ hk => hk)
      have hC5 : Chg S w w5 := hC0.trans hs5.chg (fun _ _ hk => hk.elim)
      have hR5 : HR w5 A (bs d) := inferInstance
      have hf5 : HB w5 zf 40 #[.int .i64 id, .slice A n c] := inferInstance
      have hbz : w.heap.size ≤ zf := by
        have hb9 : Born w zf := inferInstance
        rw [hb9.eq]
        exact Nat.le_refl _
      go_wp2_with (first | go_skip | ((with_reducible apply wpl_alloc); intro z wz _ _ _) | ((with_reducible apply wpl_box_agg); exact rfl; intro z wz _ _ _) | ((with_reducible apply wpl_box_int); exact rfl; intro z wz _ _ _) | ((with_reducible apply wpl_box_slice); exact rfl; intro z wz _ _ _) | ((with_reducible apply wpl_box_str); exact rfl; intro z wz _ _ _) | ((with_reducible apply wpl_box_bool); exact rfl; intro z wz _ _ _) | ((with_reducible apply wpl_box_ptr); exact rfl; intro z wz _ _ _) | ((with_reducible apply (wpl_guard (op := .load _ _))); exact rfl) | ((with_reducible apply wpl_loadrow); exact rfl; infer_instance; infer_instance; (first | with_reducible assumption | (with_reducible exact H32.size _) | kernel_rfl)) | ((with_reducible apply wpl_loadcellN); exact rfl; infer_instance; exact rfl) | ((with_reducible apply wpl_storerow); exact rfl; exact rfl; infer_instance; infer_instance; (first | with_reducible assumption | (with_reducible exact H32.size _) | kernel_rfl); (first | with_reducible assumption | (with_reducible exact H32.size _) | kernel_rfl); (first | (with_reducible exact u8s_one _) | with_reducible assumption | kernel_rfl); intro ws _ _) | ((with_reducible apply wpl_storecell); exact rfl; exact rfl; infer_instance; exact rfl; (first | with_reducible assumption | omega | (focus (simp; done)) | (focus (simp; omega; done)) | decide); intro ws _ _))
      refine (drop_calls id hJ5 (by omega) hid).mono ?_
      rintro e w7 ⟨rfl, hJ1, hC7⟩
      have hC1 : Chg S w w7 := hC5.trans hC7 (fun _ _ hk => hk)
      have hN1 : (s.drop id).N ≤ 1000000000 := by have := drop_N s id; omega
      have hm1 : (s.drop id).m ≤ 1000000000 := by have := drop_m s id; omega
      have hR1 : HR w7 A (bs d) := ⟨hR5.out.chg hC7 ho⟩
      have hnS : ¬ S zf := fun hk => by have := h.low zf hk; omega
      have hf1 : HB w7 zf 40 #[.int .i64 id, .slice A n c] := ⟨hf5.out.chg hC7 hnS⟩
      clear hC7 hC5 hJ5 hR5 hf5
      go_wp2_with (first | go_skip | ((with_reducible apply wpl_alloc); intro z wz _ _ _) | ((with_reducible apply wpl_box_agg); exact rfl; intro z wz _ _ _) | ((with_reducible apply wpl_box_int); exact rfl; intro z wz _ _ _) | ((with_reducible apply wpl_box_slice); exact rfl; intro z wz _ _ _) | ((with_reducible apply wpl_box_str); exact rfl; intro z wz _ _ _) | ((with_reducible apply wpl_box_bool); exact rfl; intro z wz _ _ _) | ((with_reducible apply wpl_box_ptr); exact rfl; intro z wz _ _ _) | ((with_reducible apply (wpl_guard (op := .load _ _))); exact rfl) | ((with_reducible apply wpl_loadrow); exact rfl; infer_instance; infer_instance; (first | with_reducible assumption | (with_reducible exact H32.size _) | kernel_rfl)) | ((with_reducible apply wpl_loadcellN); exact rfl; infer_instance; exact rfl) | ((with_reducible apply wpl_storerow); exact rfl; exact rfl; infer_instance; infer_instance; (first | with_reducible assumption | (with_reducible exact H32.size _) | kernel_rfl); (first | with_reducible assumption | (with_reducible exact H32.size _) | kernel_rfl); (first | (with_reducible exact u8s_one _) | with_reducible assumption | kernel_rfl); intro ws _ _) | ((with_reducible apply wpl_storecell); exact rfl; exact rfl; infer_instance; exact rfl; (first | with_reducible assumption | omega | (focus (simp; done)) | (focus (simp; omega; done)) | decide); intro ws _ _))
      refine wp_region_N (nowhere) (by kernel_rfl) (fun wd _ _ => ?_)
      refine' takeH (i := 0) (v := _) rfl (by kernel_rfl) (by kernel_rfl) (by kernel_rfl) (fun _ _ _ h => h) (yields_of (by rfl) (fun w' _ => ?_)) inferInstance ?_
      rotate_left
      · (go_simp; try with_reducible rfl)
      try simp only [Act.put, sA]; try simp only [sB, sC]
      refine' takeH (i := 1) (v := _) rfl (by kernel_rfl) (by kernel_rfl) (by kernel_rfl) (fun _ _ _ h => h) (yields_of (by rfl) (fun w' _ => ?_)) inferInstance ?_
      rotate_left
      · (first | ((with_reducible apply (ev_loadB (t := 5))); exact rfl; infer_instance; infer_instance; (first | with_reducible assumption | omega)) | ((with_reducible apply ev_loadrow); exact rfl; infer_instance; infer_instance; (first | with_reducible assumption | (with_reducible exact H32.size _) | kernel_rfl)) | ((with_reducible apply ev_loadcellN); exact rfl; infer_instance; infer_instance; exact rfl) | ((with_reducible apply (ev_loadint (t := 3))); exact rfl; infer_instance; infer_instance; (first | with_reducible assumption | omega)) | ((with_reducible apply (ev_loadbyte (t := 5))); exact rfl; infer_instance; infer_instance; (first | with_reducible assumption | omega)) | (go_simp; try with_reducible rfl))
      try simp only [Act.put, sA]; try simp only [sB, sC]
      refine' takeH (i := 2) (v := _) rfl (by kernel_rfl) (by kernel_rfl) (by kernel_rfl) (fun _ _ _ h => h) (yields_of (by rfl) (fun w' _ => ?_)) inferInstance ?_
      rotate_left
      · (first | ((with_reducible apply ev_indexB0); exact rfl; infer_instance; infer_instance; (first | with_reducible assumption | omega); (first | with_reducible assumption | omega)) | ((with_reducible apply ev_indexB); exact rfl; exact rfl; infer_instance; infer_instance; (first | with_reducible assumption | omega); (first | with_reducible assumption | omega)) | (go_simp; try with_reducible rfl))
      try simp only [Act.put, sA]; try simp only [sB, sC]
      refine' takeH (i := 3) (v := _) rfl (by kernel_rfl) (by kernel_rfl) (by kernel_rfl) (fun _ _ _ h => h) (yields_of (by rfl) (fun w' _ => ?_)) inferInstance ?_
      rotate_left
      · (first | ((with_reducible apply (ev_loadB (t := 5))); exact rfl; infer_instance; infer_instance; (first | with_reducible assumption | omega)) | ((with_reducible apply ev_loadrow); exact rfl; infer_instance; infer_instance; (first | with_reducible assumption | (with_reducible exact H32.size _) | kernel_rfl)) | ((with_reducible apply ev_loadcellN); exact rfl; infer_instance; infer_instance; exact rfl) | ((with_reducible apply (ev_loadint (t := 3))); exact rfl; infer_instance; infer_instance; (first | with_reducible assumption | omega)) | ((with_reducible apply (ev_loadbyte (t := 5))); exact rfl; infer_instance; infer_instance; (first | with_reducible assumption | omega)) | (go_simp; try with_reducible rfl))
      try simp only [Act.put, sA]; try simp only [sB, sC]
      refine' takeH (i := 4) (v := _) rfl (by kernel_rfl) (by kernel_rfl) (by kernel_rfl) (fun _ _ _ h => h) (yields_of (by rfl) (fun w' _ => ?_)) inferInstance ?_
      rotate_left
      · (go_simp; try with_reducible rfl)
      try simp only [Act.put, sA]; try simp only [sB, sC]
      refine' takeH (i := 5) (v := _) rfl (by kernel_rfl) (by kernel_rfl) (by kernel_rfl) (fun _ _ _ h => h) (yields_of (by rfl) (fun w' _ => ?_)) inferInstance ?_
      rotate_left
      · (go_simp; try with_reducible rfl)
      try simp only [Act.put, sA]; try simp only [sB, sC]
      refine' takeH (i := 6) (v := _) rfl (by kernel_rfl) (by kernel_rfl) (by kernel_rfl) (fun _ _ _ h => h) (yields_of (by rfl) (fun w' _ => ?_)) inferInstance ?_
      rotate_left
      · (go_simp; try with_reducible rfl)
      try simp only [Act.put, sA]; try simp only [sB, sC]
      refine' takeH (i := 7) (v := _) rfl (by kernel_rfl) (by kernel_rfl) (by kernel_rfl) (fun _ _ _ h => h) (yields_of (by rfl) (fun w' _ => ?_)) inferInstance ?_
      rotate_left
      · (first | ((with_reducible apply (ev_loadB (t := 5))); exact rfl; infer_instance; infer_instance; (first | with_reducible assumption | omega)) | ((with_reducible apply ev_loadrow); exact rfl; infer_instance; infer_instance; (first | with_reducible assumption | (with_reducible exact H32.size _) | kernel_rfl)) | ((with_reducible apply ev_loadcellN); exact rfl; infer_instance; infer_instance; exact rfl) | ((with_reducible apply (ev_loadint (t := 3))); exact rfl; infer_instance; infer_instance; (first | with_reducible assumption | omega)) | ((with_reducible apply (ev_loadbyte (t := 5))); exact rfl; infer_instance; infer_instance; (first | with_reducible assumption | omega)) | (go_simp; try with_reducible rfl))
      try simp only [Act.put, sA]; try simp only [sB, sC]
      refine' takeH (i := 8) (v := _) rfl (by kernel_rfl) (by kernel_rfl) (by kernel_rfl) (fun _ _ _ h => h) (yields_of (by rfl) (fun w' _ => ?_)) inferInstance ?_
      rotate_left
      · (first | ((with_reducible apply ev_sl_l1); exact rfl; infer_instance; (first | with_reducible assumption | omega)) | ((with_reducible apply ev_sl_lh); exact rfl; exact rfl; exact rfl; infer_instance; (first | with_reducible assumption | omega); (first | with_reducible assumption | omega)) | ((with_reducible apply ev_sl_h); exact rfl; exact rfl; infer_instance; (first | with_reducible assumption | omega)) | ((with_reducible apply ev_sl_l); exact rfl; exact rfl; infer_instance; (first | with_reducible assumption | omega)) | (go_simp; try with_reducible rfl))
      try simp only [Act.put, sA]; try simp only [sB, sC]
      refine' takeH (i := 9) (v := _) rfl (by kernel_rfl) (by kernel_rfl) (by kernel_rfl) (fun _ _ _ h => h) (yields_of (by rfl) (fun w' _ => ?_)) inferInstance ?_
      rotate_left
      · (go_simp; try with_reducible rfl)
      try simp only [Act.put, sA]; try simp only [sB, sC]
      refine' takeH (i := 10) (v := _) rfl (by kernel_rfl) (by kernel_rfl) (by kernel_rfl) (fun _ _ _ h => h) (yields_of (by rfl) (fun w' _ => ?_)) inferInstance ?_
      rotate_left
      · (go_simp; try with_reducible rfl)
      try simp only [Act.put, sA]; try simp only [sB, sC]
      refine wpAnyH_done (by kernel_rfl) ?_ _
      rw [HW.out]
      have hJ9 : JS wd z S (s.drop id) := hJ1.calm (stepN (w0 := w7) (w := wd)).chg (fun _ _ hk => hk)
      have hC9 : Chg S w wd := hC1.trans (stepN (w0 := w7) (w := wd)).chg (fun _ _ hk => hk.elim)
      have hR9 : HR wd A (bs d) := inferInstance
      go_wp2_with (first | go_skip | ((with_reducible apply wpl_indexB0); exact rfl; infer_instance; infer_instance; (exact hn); omega) | ((with_reducible apply (wpl_loadB (t := 5))); exact rfl; infer_instance; infer_instance; (exact hk0)) | ((with_reducible apply wpl_alloc); intro z wz _ _ _) | ((with_reducible apply wpl_box_agg); exact rfl; intro z wz _ _ _) | ((with_reducible apply wpl_box_int); exact rfl; intro z wz _ _ _) | ((with_reducible apply wpl_box_slice); exact rfl; intro z wz _ _ _) | ((with_reducible apply wpl_box_str); exact rfl; intro z wz _ _ _) | ((with_reducible apply wpl_box_bool); exact rfl; intro z wz _ _ _) | ((with_reducible apply wpl_box_ptr); exact rfl; intro z wz _ _ _) | ((with_reducible apply (wpl_guard (op := .load _ _))); exact rfl) | ((with_reducible apply wpl_loadrow); exact rfl; infer_instance; infer_instance; (first | with_reducible assumption | (with_reducible exact H32.size _) | kernel_rfl)) | ((with_reducible apply wpl_loadcellN); exact rfl; infer_instance; exact rfl) | ((with_reducible apply wpl_storerow); exact rfl; exact rfl; infer_instance; infer_instance; (first | with_reducible assumption | (with_reducible exact H32.size _) | kernel_rfl); (first | with_reducible assumption | (with_reducible exact H32.size _) | kernel_rfl); (first | (with_reducible exact u8s_one _) | with_reducible assumption | kernel_rfl); intro ws _ _) | ((with_reducible apply wpl_storecell); exact rfl; exact rfl; infer_instance; exact rfl; (first | with_reducible assumption | omega | (focus (simp; done)) | (focus (simp; omega; done)) | decide); intro ws _ _))
      refine (further_calls (c := c - 1) id l0 now hJ9 hN1 hm1 hid (HRP _ hR9) HAP hpl (by omega) h16 h3 h4).mono ?_
      rintro e w8 ⟨S8, B8, c8, g1, rfl, g3, g4, g5⟩
      go_wp2_with fail
      go_ret2
      exact TkPost.trans hC9 ⟨S8, B8, c8, g1, rfl, g3, g4, g5⟩
set_option maxRecDepth 100000 in
set_option maxHeartbeats 3200000 in
theorem take4_calls (id now : Int) {A : Option Addr} {n c : Nat} {d : List UInt8} {w : World} {z : Nat} {S : Nat → Prop} {s : St} (h : JS w z S s) (hN : s.N ≤ 100000000) (hm : s.m ≤ 1000000000) (hid : (Lit.int .i64 id).wf = true) (hp : Rd w A (bs d)) (ho : Apart S A (bs d)) (hn : d.length = n) (hcc : n ≤ c) (hn2 : n ≤ 1000)
    (h3 : -9223372036854775808 ≤ now) (h4 : now ≤ 9223372036854775807) (k0 : 1 ≤ n) (hk : 2 < (bget d 0).toNat / 16) :
    Calls Try.prog 17 #[.pointer (some ⟨z, 0, none⟩), .agg #[.int .i64 id, .slice A n c], .int .i64 now] w (TkPost z S w (takeS s id d now)) := by
  have hR : HR w A (bs d) := ⟨hp⟩
  obtain ⟨F, M, hb, hr, hmm, hg⟩ := h.mem
  have hB : HB w z 79 #[.map M, .int .i64 s.N] := ⟨hb⟩
  have hJ : HMJ w M s.m (cellsG s F) := ⟨hmm⟩
  have hss := look_some s F id
  have b0 : ((n : Int) == 0) = false := beqF (by omega)
  have n0 : 1 ≤ n := k0
  have hk0 : 0 < d.length := by omega
  obtain ⟨l0, hl0⟩ : ∃ l0, (bget d 0).toNat % 16 = l0 := ⟨_, rfl⟩
  obtain ⟨pd, hpd⟩ : ∃ pd, d.drop 1 = pd := ⟨_, rfl⟩
  have h16 : l0 < 16 := by omega
  have hpl : pd.length = n - 1 := by rw [← hpd, List.length_drop, hn]
  have HRP : ∀ w', HR w' A (bs d) → Rd w' (cutA A 1 c 1) (bs pd) := fun w' h' => by rw [← hpd]; exact (HR.cutB h' hn hcc 1).out
  have HAP : Apart S (cutA A 1 c 1) (bs pd) := by rw [← hpd]; exact apart_cutB ho c 1 (by decide)
  have HW := Lib.hid (show IntKind.i64.wrap ((((bget d 0).toNat : Nat) : Int).tmod 16) = (l0 : Int) by
    rw [Int.tmod_eq_emod_of_nonneg (by omega), IntKind.wrap_i64]
    omega)
  have hkey : takeS s id d now = errS (lateS s id now) := by rw [takeS, kindS, if_neg (by omega), if_neg (by omega), if_neg (by omega), if_neg (by omega)]
  rw [hkey]
  clear hkey
  have HLO := Lib.hid hl0
  have HPD := Lib.hid hpd
  clear hl0 hpd
  have b1 : ((((bget d 0).toNat : Nat) : Int) / 16 == 0) = false := beqF (by omega)
  have b2 : ((((bget d 0).toNat : Nat) : Int) / 16 == 1) = false := beqF (by omega)
  have b3 : ((((bget d 0).toNat : Nat) : Int) / 16 == 2) = false := beqF (by omega)
  cases hs : s.G id with
  | none =>
    rw [hs] at hss
    have HS := Lib.hid hss
    clear hss
    rw [late_none now hs]
    have hz4 := look_size s F id
    have hone := look_one s F id
    obtain ⟨lk, hlk⟩ : ∃ lk, (cellsG s F id).getD zMsgC = lk := ⟨_, rfl⟩
    rw [hlk] at hz4 hone
    have HL := Lib.hid hlk
    clear hlk
    go_enter Try.func17, Try.ntmps17
    go_wp2_with (first | go_skip | ((with_reducible apply (wpl_alloc (dst := some 4))); intro zf wzf _ _ _) | ((with_reducible apply (wpl_box_agg (dst := some 4))); exact rfl; intro zf wzf _ _ _) | ((with_reducible apply (wpl_box_int (dst := some 4))); exact rfl; intro zf wzf _ _ _) | ((with_reducible apply (wpl_box_slice (dst := some 4))); exact rfl; intro zf wzf _ _ _) | ((with_reducible apply (wpl_box_str (dst := some 4))); exact rfl; intro zf wzf _ _ _) | ((with_reducible apply (wpl_box_bool (dst := some 4))); exact rfl; intro zf wzf _ _ _) | ((with_reducible apply (wpl_box_ptr (dst := some 4))); exact rfl; intro zf wzf _ _ _) | ((with_reducible apply wpl_alloc); intro z wz _ _ _) | ((with_reducible apply wpl_box_agg); exact rfl; intro z wz _ _ _) | ((with_reducible apply wpl_box_int); exact rfl; intro z wz _ _ _) | ((with_reducible apply wpl_box_slice); exact rfl; intro z wz _ _ _) | ((with_reducible apply wpl_box_str); exact rfl; intro z wz _ _ _) | ((with_reducible apply wpl_box_bool); exact rfl; intro z wz _ _ _) | ((with_reducible apply wpl_box_ptr); exact rfl; intro z wz _ _ _) | ((with_reducible apply (wpl_guard (op := .load _ _))); exact rfl) | ((with_reducible apply wpl_loadrow); exact rfl; infer_instance; infer_instance; (first | with_reducible assumption | (with_reducible exact H32.size _) | kernel_rfl)) | ((with_reducible apply wpl_loadcellN); exact rfl; infer_instance; exact rfl) | ((with_reducible apply wpl_storerow); exact rfl; exact rfl; infer_instance; infer_instance; (first | with_reducible assumption | (with_reducible exact H32.size _) | kernel_rfl); (first | with_reducible assumption | (with_reducible exact H32.size _) | kernel_rfl); (first | (with_reducible exact u8s_one _) | with_reducible assumption | kernel_rfl); intro ws _ _) | ((with_reducible apply wpl_storecell); exact rfl; exact rfl; infer_instance; exact rfl; (first | with_reducible assumption | omega | (focus (simp; done)) | (focus (simp; omega; done)) | decide); intro ws _ _))
    refine wp_region_N (nowhere) (by kernel_rfl) (fun wd _ _ => ?_)
    refine' takeH (i := 0) (v := _) rfl (by kernel_rfl) (by kernel_rfl) (by kernel_rfl) (fun _ _ _ h => h) (yields_of (by rfl) (fun w' _ => ?_)) inferInstance ?_
    rotate_left
    · (go_simp; try with_reducible rfl)
    try simp only [Act.put, sA]; try simp only [sB, sC]
    refine' takeH (i := 1) (v := _) rfl (by kernel_rfl) (by kernel_rfl) (by kernel_rfl) (fun _ _ _ h => h) (yields_of (by rfl) (fun w' _ => ?_)) inferInstance ?_
    rotate_left
    · (go_simp; try with_reducible rfl)
    try simp only [Act.put, sA]; try simp only [sB, sC]
    refine' takeH (i := 2) (v := _) rfl (by kernel_rfl) (by kernel_rfl) (by kernel_rfl) (fun _ _ _ h => h) (yields_of (by rfl) (fun w' _ => ?_)) inferInstance ?_
    rotate_left
    · (go_simp; try with_reducible rfl)
    try simp only [Act.put, sA]; try simp only [sB, sC]
    refine' takeH (i := 3) (v := _) rfl (by kernel_rfl) (by kernel_rfl) (by kernel_rfl) (fun _ _ _ h => h) (yields_of (by rfl) (fun w' _ => ?_)) inferInstance ?_
    rotate_left
    · (first | ((with_reducible apply (ev_loadB (t := 5))); exact rfl; infer_instance; infer_instance; (first | with_reducible assumption | omega)) | ((with_reducible apply ev_loadrow); exact rfl; infer_instance; infer_instance; (first | with_reducible assumption | (with_reducible exact H32.size _) | kernel_rfl)) | ((with_reducible apply ev_loadcellN); exact rfl; infer_instance; infer_instance; exact rfl) | ((with_reducible apply (ev_loadint (t := 3))); exact rfl; infer_instance; infer_instance; (first | with_reducible assumption | omega)) | ((with_reducible apply (ev_loadbyte (t := 5))); exact rfl; infer_instance; infer_instance; (first | with_reducible assumption | omega)) | (go_simp; try with_reducible rfl))
    try simp only [Act.put, sA]; try simp only [sB, sC]
    refine' takeH (i := 4) (v := _) rfl (by kernel_rfl) (by kernel_rfl) (by kernel_rfl) (fun _ _ _ h => h) (yields_of (by rfl) (fun w' _ => ?_)) inferInstance ?_
    rotate_left
    · (go_simp; try with_reducible rfl)
    try simp only [Act.put, sA]; try simp only [sB, sC]
    refine' takeH (i := 5) (v := _) rfl (by kernel_rfl) (by kernel_rfl) (by kernel_rfl) (fun _ _ _ h => h) (yields_of (by rfl) (fun w' _ => ?_)) inferInstance ?_
    rotate_left
    · (first | ((with_reducible apply (ev_loadB (t := 5))); exact rfl; infer_instance; infer_instance; (first | with_reducible assumption | omega)) | ((with_reducible apply ev_loadrow); exact rfl; infer_instance; infer_instance; (first | with_reducible assumption | (with_reducible exact H32.size _) | kernel_rfl)) | ((with_reducible apply ev_loadcellN); exact rfl; infer_instance; infer_instance; exact rfl) | ((with_reducible apply (ev_loadint (t := 3))); exact rfl; infer_instance; infer_instance; (first | with_reducible assumption | omega)) | ((with_reducible apply (ev_loadbyte (t := 5))); exact rfl; infer_instance; infer_instance; (first | with_reducible assumption | omega)) | (go_simp; try with_reducible rfl))
    try simp only [Act.put, sA]; try simp only [sB, sC]
    refine' takeH (i := 6) (v := _) rfl (by kernel_rfl) (by kernel_rfl) (by kernel_rfl) (fun _ _ _ h => h) (yields_of (by rfl) (fun w' _ => ?_)) inferInstance ?_
    rotate_left
    · (first | ((with_reducible apply ev_lookMJ); exact rfl; exact rfl; infer_instance; (exact hid); (exact HL.out); (exact HS.out)))
    try simp only [Act.put, sA]; try simp only [sB, sC]
    refine' takeH (i := 7) (v := _) rfl (by kernel_rfl) (by kernel_rfl) (by kernel_rfl) (fun _ _ _ h => h) (yields_of (by rfl) (fun w' _ => ?_)) inferInstance ?_
    rotate_left
    · (go_simp; try with_reducible rfl)
    try simp only [Act.put, sA]; try simp only [sB, sC]
    refine' takeH (i := 8) (v := _) rfl (by kernel_rfl) (by kernel_rfl) (by kernel_rfl) (fun _ _ _ h => h) (yields_of (by rfl) (fun w' _ => ?_)) inferInstance ?_
    rotate_left
    · (go_simp; try with_reducible rfl)
    try simp only [Act.put, sA]; try simp only [sB, sC]
    refine' takeH (i := 9) (v := _) rfl (by kernel_rfl) (by kernel_rfl) (by kernel_rfl) (fun _ _ _ h => h) (yields_of (by rfl) (fun w' _ => ?_)) inferInstance ?_
    rotate_left
    · (go_simp; try with_reducible rfl)
    try simp only [Act.put, sA]; try simp only [sB, sC]
    refine goH (i := 10) (by kernel_rfl) rfl (fun K_ hK_ => ?_)
    rw [if_pos (by kernel_rfl)]
    refine wpr_of_list ?_
    (first | ((with_reducible apply (wpl_alloc (dst := some 8))); intro zl wzl _ _ _) | ((with_reducible apply wpl_alloc); intro z wz _ _ _))
    refine wpList_nil ?_
    unfold onlyN
    refine hK_.out _ _ inferInstance (fun _ => ?_)
    clear hK_ K_
    try simp only [Act.put, sA]; try simp only [sB, sC]
    refine goH (i := 11) (by kernel_rfl) rfl (fun K_ hK_ => ?_)
    rw [if_pos (by kernel_rfl)]
    refine wpr_of_list ?_
    (first | ((with_reducible apply wpl_storerow); exact rfl; exact rfl; infer_instance; infer_instance; (first | with_reducible assumption | (with_reducible exact H32.size _) | kernel_rfl); (first | with_reducible assumption | (with_reducible exact H32.size _) | kernel_rfl); (first | (with_reducible exact u8s_one _) | with_reducible assumption | kernel_rfl); intro ws _ _) | ((with_reducible apply wpl_storecell); exact rfl; exact rfl; infer_instance; exact rfl; (first | with_reducible assumption | omega | (focus (simp; done)) | (focus (simp; omega; done)) | decide); intro ws _ _) | ((with_reducible apply (wpl_storeint (t := 3))); exact rfl; exact rfl; infer_instance; (first | with_reducible assumption | omega); intro ws _ _) | ((with_reducible apply (wpl_storebyte (t := 5))); exact rfl; exact rfl; infer_instance; (first | with_reducible assumption | omega | (focus (simp; done)) | (focus (simp; omega; done)) | decide); (constructor <;> omega); intro ws _ _))
    refine wpList_nil ?_
    unfold onlyN
    refine hK_.out _ _ inferInstance (fun _ => ?_)
    clear hK_ K_
    try simp only [Act.put]
    refine' takeH (i := 12) (v := _) rfl (by kernel_rfl) (by kernel_rfl) (by kernel_rfl) (fun _ _ _ h => h) (yields_of (by rfl) (fun w' _ => ?_)) inferInstance ?_
    rotate_left
    · (go_simp; try with_reducible rfl)
    try simp only [Act.put, sA]; try simp only [sB, sC]
    refine wpAnyH_done (by kernel_rfl) ?_ _
    have hc0 : Chg nowhere w ws := stepN.chg
    have hJ0 : JS ws z S s := h.calm hc0 (fun _ _ hk => hk)
    have hC0 : Chg S w ws := hc0.mono (fun _ _ hk => hk.elim)
    have hJ1 := hJ0
    have hC1 := hC0
    have hN1 : s.N ≤ 1000000000 := by omega
    have hm1 : s.m ≤ 1000000000 := hm
    have hR1 : HR ws A (bs d) := inferInstance
    have hf1 : HB ws zf 40 #[.int .i64 id, .slice A n c] := inferInstance
    go_wp2_with (first | go_skip | ((with_reducible apply wpl_alloc); intro z wz _ _ _) | ((with_reducible apply wpl_box_agg); exact rfl; intro z wz _ _ _) | ((with_reducible apply wpl_box_int); exact rfl; intro z wz _ _ _) | ((with_reducible apply wpl_box_slice); exact rfl; intro z wz _ _ _) | ((with_reducible apply wpl_box_str); exact rfl; intro z wz _ _ _) | ((with_reducible apply wpl_box_bool); exact rfl; intro z wz _ _ _) | ((with_reducible apply wpl_box_ptr); exact rfl; intro z wz _ _ _) | ((with_reducible apply (wpl_guard (op := .load _ _))); exact rfl) | ((with_reducible apply wpl_loadrow); exact rfl; infer_instance; infer_instance; (first | with_reducible assumption | (with_reducible exact H32.size _) | kernel_rfl)) | ((with_reducible apply wpl_loadcellN); exact rfl; infer_instance; exact rfl) | ((with_reducible apply wpl_storerow); exact rfl; exact rfl; infer_instance; infer_instance; (first | with_reducible assumption | (with_reducible exact H32.size _) | kernel_rfl); (first | with_reducible assumption | (with_reducible exact H32.size _) | kernel_rfl); (first | (with_reducible exact u8s_one _) | with_reducible assumption | kernel_rfl); intro ws _ _) | ((with_reducible apply wpl_storecell); exact rfl; exact rfl; infer_instance; exact rfl; (first | with_reducible assumption | omega | (focus (simp; done)) | (focus (simp; omega; done)) | decide); intro ws _ _))
    refine wp_region_N (nowhere) (by kernel_rfl) (fun wd _ _ => ?_)
    refine' takeH (i := 0) (v := _) rfl (by kernel_rfl) (by kernel_rfl) (by kernel_rfl) (fun _ _ _ h => h) (yields_of (by rfl) (fun w' _ => ?_)) inferInstance ?_
    rotate_left
    · (go_simp; try with_reducible rfl)
    try simp only [Act.put, sA]; try simp only [sB, sC]
    refine' takeH (i := 1) (v := _) rfl (by kernel_rfl) (by kernel_rfl) (by kernel_rfl) (fun _ _ _ h => h) (yields_of (by rfl) (fun w' _ => ?_)) inferInstance ?_
    rotate_left
    · (first | ((with_reducible apply (ev_loadB (t := 5))); exact rfl; infer_instance; infer_instance; (first | with_reducible assumption | omega)) | ((with_reducible apply ev_loadrow); exact rfl; infer_instance; infer_instance; (first | with_reducible assumption | (with_reducible exact H32.size _) | kernel_rfl)) | ((with_reducible apply ev_loadcellN); exact rfl; infer_instance; infer_instance; exact rfl) | ((with_reducible apply (ev_loadint (t := 3))); exact rfl; infer_instance; infer_instance; (first | with_reducible assumption | omega)) | ((with_reducible apply (ev_loadbyte (t := 5))); exact rfl; infer_instance; infer_instance; (first | with_reducible assumption | omega)) | (go_simp; try with_reducible rfl))
    try simp only [Act.put, sA]; try simp only [sB, sC]
    refine' takeH (i := 2) (v := _) rfl (by kernel_rfl) (by kernel_rfl) (by kernel_rfl) (fun _ _ _ h => h) (yields_of (by rfl) (fun w' _ => ?_)) inferInstance ?_
    rotate_left
    · (first | ((with_reducible apply ev_indexB0); exact rfl; infer_instance; infer_instance; (first | with_reducible assumption | omega); (first | with_reducible assumption | omega)) | ((with_reducible apply ev_indexB); exact rfl; exact rfl; infer_instance; infer_instance; (first | with_reducible assumption | omega); (first | with_reducible assumption | omega)) | (go_simp; try with_reducible rfl))
    try simp only [Act.put, sA]; try simp only [sB, sC]
    refine' takeH (i := 3) (v := _) rfl (by kernel_rfl) (by kernel_rfl) (by kernel_rfl) (fun _ _ _ h => h) (yields_of (by rfl) (fun w' _ => ?_)) inferInstance ?_
    rotate_left
    · (first | ((with_reducible apply (ev_loadB (t := 5))); exact rfl; infer_instance; infer_instance; (first | with_reducible assumption | omega)) | ((with_reducible apply ev_loadrow); exact rfl; infer_instance; infer_instance; (first | with_reducible assumption | (with_reducible exact H32.size _) | kernel_rfl)) | ((with_reducible apply ev_loadcellN); exact rfl; infer_instance; infer_instance; exact rfl) | ((with_reducible apply (ev_loadint (t := 3))); exact rfl; infer_instance; infer_instance; (first | with_reducible assumption | omega)) | ((with_reducible apply (ev_loadbyte (t := 5))); exact rfl; infer_instance; infer_instance; (first | with_reducible assumption | omega)) | (go_simp; try with_reducible rfl))
    try simp only [Act.put, sA]; try simp only [sB, sC]
    refine' takeH (i := 4) (v := _) rfl (by kernel_rfl) (by kernel_rfl) (by kernel_rfl) (fun _ _ _ h => h) (yields_of (by rfl) (fun w' _ => ?_)) inferInstance ?_
    rotate_left
    · (go_simp; try with_reducible rfl)
    try simp only [Act.put, sA]; try simp only [sB, sC]
    refine' takeH (i := 5) (v := _) rfl (by kernel_rfl) (by kernel_rfl) (by kernel_rfl) (fun _ _ _ h => h) (yields_of (by rfl) (fun w' _ => ?_)) inferInstance ?_
    rotate_left
    · (go_simp; try with_reducible rfl)
    try simp only [Act.put, sA]; try simp only [sB, sC]
    refine' takeH (i := 6) (v := _) rfl (by kernel_rfl) (by kernel_rfl) (by kernel_rfl) (fun _ _ _ h => h) (yields_of (by rfl) (fun w' _ => ?_)) inferInstance ?_
    rotate_left
    · (go_simp; try with_reducible rfl)
    try simp only [Act.put, sA]; try simp only [sB, sC]
    refine' takeH (i := 7) (v := _) rfl (by kernel_rfl) (by kernel_rfl) (by kernel_rfl) (fun _ _ _ h => h) (yields_of (by rfl) (fun w' _ => ?_)) inferInstance ?_
    rotate_left
    · (first | ((with_reducible apply (ev_loadB (t := 5))); exact rfl; infer_instance; infer_instance; (first | with_reducible assumption | omega)) | ((with_reducible apply ev_loadrow); exact rfl; infer_instance; infer_instance; (first | with_reducible assumption | (with_reducible exact H32.size _) | kernel_rfl)) | ((with_reducible apply ev_loadcellN); exact rfl; infer_instance; infer_instance; exact rfl) | ((with_reducible apply (ev_loadint (t := 3))); exact rfl; infer_instance; infer_instance; (first | with_reducible assumption | omega)) | ((with_reducible apply (ev_loadbyte (t := 5))); exact rfl; infer_instance; infer_instance; (first | with_reducible assumption | omega)) | (go_simp; try with_reducible rfl))
    try simp only [Act.put, sA]; try simp only [sB, sC]
    refine' takeH (i := 8) (v := _) rfl (by kernel_rfl) (by kernel_rfl) (by kernel_rfl) (fun _ _ _ h => h) (yields_of (by rfl) (fun w' _ => ?_)) inferInstance ?_
    rotate_left
    · (first | ((with_reducible apply ev_sl_l1); exact rfl; infer_instance; (first | with_reducible assumption | omega)) | ((with_reducible apply ev_sl_lh); exact rfl; exact rfl; exact rfl; infer_instance; (first | with_reducible assumption | omega); (first | with_reducible assumption | omega)) | ((with_reducible apply ev_sl_h); exact rfl; exact rfl; infer_instance; (first | with_reducible assumption | omega)) | ((with_reducible apply ev_sl_l); exact rfl; exact rfl; infer_instance; (first | with_reducible assumption | omega)) | (go_simp; try with_reducible rfl))
    try simp only [Act.put, sA]; try simp only [sB, sC]
    refine' takeH (i := 9) (v := _) rfl (by kernel_rfl) (by kernel_rfl) (by kernel_rfl) (fun _ _ _ h => h) (yields_of (by rfl) (fun w' _ => ?_)) inferInstance ?_
    rotate_left
    · (go_simp; try with_reducible rfl)
    try simp only [Act.put, sA]; try simp only [sB, sC]
    refine' takeH (i := 10) (v := _) rfl (by kernel_rfl) (by kernel_rfl) (by kernel_rfl) (fun _ _ _ h => h) (yields_of (by rfl) (fun w' _ => ?_)) inferInstance ?_
    rotate_left
    · (go_simp; try with_reducible rfl)
    try simp only [Act.put, sA]; try simp only [sB, sC]
    refine wpAnyH_done (by kernel_rfl) ?_ _
    rw [HW.out]
    have hJ9 : JS wd z S s := hJ1.calm (stepN (w0 := ws) (w := wd)).chg (fun _ _ hk => hk)
    have hC9 : Chg S w wd := hC1.trans (stepN (w0 := ws) (w := wd)).chg (fun _ _ hk => hk.elim)
    have hR9 : HR wd A (bs d) := inferInstance
    go_wp2_with (first | go_skip | ((with_reducible apply wpl_indexB0); exact rfl; infer_instance; infer_instance; (exact hn); omega) | ((with_reducible apply (wpl_loadB (t := 5))); exact rfl; infer_instance; infer_instance; (exact hk0)) | ((with_reducible apply wpl_alloc); intro z wz _ _ _) | ((with_reducible apply wpl_box_agg); exact rfl; intro z wz _ _ _) | ((with_reducible apply wpl_box_int); exact rfl; intro z wz _ _ _) | ((with_reducible apply wpl_box_slice); exact rfl; intro z wz _ _ _) | ((with_reducible apply wpl_box_str); exact rfl; intro z wz _ _ _) | ((with_reducible apply wpl_box_bool); exact rfl; intro z wz _ _ _) | ((with_reducible apply wpl_box_ptr); exact rfl; intro z wz _ _ _) | ((with_reducible apply (wpl_guard (op := .load _ _))); exact rfl) | ((with_reducible apply wpl_loadrow); exact rfl; infer_instance; infer_instance; (first | with_reducible assumption | (with_reducible exact H32.size _) | kernel_rfl)) | ((with_reducible apply wpl_loadcellN); exact rfl; infer_instance; exact rfl) | ((with_reducible apply wpl_storerow); exact rfl; exact rfl; infer_instance; infer_instance; (first | with_reducible assumption | (with_reducible exact H32.size _) | kernel_rfl); (first | with_reducible assumption | (with_reducible exact H32.size _) | kernel_rfl); (first | (with_reducible exact u8s_one _) | with_reducible assumption | kernel_rfl); intro ws _ _) | ((with_reducible apply wpl_storecell); exact rfl; exact rfl; infer_instance; exact rfl; (first | with_reducible assumption | omega | (focus (simp; done)) | (focus (simp; omega; done)) | decide); intro ws _ _))
    refine (err_calls hJ9 hN1).mono ?_
    rintro e w8 ⟨rfl, hJ2, hC2⟩
    go_wp2_with fail
    go_ret2
    exact TkPost.trans hC9 (TkPost.err hJ2 hC2)
  | some v =>
    obtain ⟨vb, wh, nx, la⟩ := v
    obtain ⟨k1, k2, k3, k4, k5⟩ := h.ok.ok id _ hs
    have hlk : (cellsG s F id).getD zMsgC = msgC (F id) ⟨vb, wh, nx, la⟩ := by rw [cellsG, hs]; rfl
    rw [hs] at hss
    have HS := Lib.hid hss
    clear hss
    obtain ⟨pA, hpA⟩ : ∃ x, (F id).A = x := ⟨_, rfl⟩
    obtain ⟨pc, hpc⟩ : ∃ x, (F id).c = x := ⟨_, rfl⟩
    obtain ⟨nb, hnb⟩ : ∃ x, vb.length = x := ⟨_, rfl⟩
    simp only [msgC] at hlk k4 k5
    rw [hpA, hpc, hnb] at hlk
    have HL := Lib.hid hlk
    clear hlk hpA hpc hnb
    cases hst : staleB la now with
    | false =>
      rw [late_some hs (show staleB la now = false from hst)]
      go_enter Try.func17, Try.ntmps17
      go_wp2_with (first | go_skip | ((with_reducible apply (wpl_alloc (dst := some 4))); intro zf wzf _ _ _) | ((with_reducible apply (wpl_box_agg (dst := some 4))); exact rfl; intro zf wzf _ _ _) | ((with_reducible apply (wpl_box_int (dst := some 4))); exact rfl; intro zf wzf _ _ _) | ((with_reducible apply (wpl_box_slice (dst := some 4))); exact rfl; intro zf wzf _ _ _) | ((with_reducible apply (wpl_box_str (dst := some 4))); exact rfl; intro zf wzf _ _ _) | ((with_reducible apply (wpl_box_bool (dst := some 4))); exact rfl; intro zf wzf _ _ _) | ((with_reducible apply (wpl_box_ptr (dst := some 4))); exact rfl; intro zf wzf _ _ _) | ((with_reducible apply wpl_alloc); intro z wz _ _ _) | ((with_reducible apply wpl_box_agg); exact rfl; intro z wz _ _ _) | ((with_reducible apply wpl_box_int); exact rfl; intro z wz _ _ _) | ((with_reducible apply wpl_box_slice); exact rfl; intro z wz _ _ _) | ((with_reducible apply wpl_box_str); exact rfl; intro z wz _ _ _) | ((with_reducible apply wpl_box_bool); exact rfl; intro z wz _ _ _) | ((with_reducible apply wpl_box_ptr); exact rfl; intro z wz _ _ _) | ((with_reducible apply (wpl_guard (op := .load _ _))); exact rfl) | ((with_reducible apply wpl_loadrow); exact rfl; infer_instance; infer_instance; (first | with_reducible assumption | (with_reducible exact H32.size _) | kernel_rfl)) | ((with_reducible apply wpl_loadcellN); exact rfl; infer_instance; exact rfl) | ((with_reducible apply wpl_storerow); exact rfl; exact rfl; infer_instance; infer_instance; (first | with_reducible assumption | (with_reducible exact H32.size _) | kernel_rfl); (first | with_reducible assumption | (with_reducible exact H32.size _) | kernel_rfl); (first | (with_reducible exact u8s_one _) | with_reducible assumption | kernel_rfl); intro ws _ _) | ((with_reducible apply wpl_storecell); exact rfl; exact rfl; infer_instance; exact rfl; (first | with_reducible assumption | omega | (focus (simp; done)) | (focus (simp; omega; done)) | decide); intro ws _ _))
      refine wp_region_N (nowhere) (by kernel_rfl) (fun wd _ _ => ?_)
      refine' takeH (i := 0) (v := _) rfl (by kernel_rfl) (by kernel_rfl) (by kernel_rfl) (fun _ _ _ h => h) (yields_of (by rfl) (fun w' _ => ?_)) inferInstance ?_
      rotate_left
      · (go_simp; try with_reducible rfl)
      try simp only [Act.put, sA]; try simp only [sB, sC]
      refine' takeH (i := 1) (v := _) rfl (by kernel_rfl) (by kernel_rfl) (by kernel_rfl) (fun _ _ _ h => h) (yields_of (by rfl) (fun w' _ => ?_)) inferInstance ?_
      rotate_left
      · (go_simp; try with_reducible rfl)
      try simp only [Act.put, sA]; try simp only [sB, sC]
      refine' takeH (i := 2) (v := _) rfl (by kernel_rfl) (by kernel_rfl) (by kernel_rfl) (fun _ _ _ h => h) (yields_of (by rfl) (fun w' _ => ?_)) inferInstance ?_
      rotate_left
      · (go_simp; try with_reducible rfl)
      try simp only [Act.put, sA]; try simp only [sB, sC]
      refine' takeH (i := 3) (v := _) rfl (by kernel_rfl) (by kernel_rfl) (by kernel_rfl) (fun _ _ _ h => h) (yields_of (by rfl) (fun w' _ => ?_)) inferInstance ?_
      rotate_left
      · (first | ((with_reducible apply (ev_loadB (t := 5))); exact rfl; infer_instance; infer_instance; (first | with_reducible assumption | omega)) | ((with_reducible apply ev_loadrow); exact rfl; infer_instance; infer_instance; (first | with_reducible assumption | (with_reducible exact H32.size _) | kernel_rfl)) | ((with_reducible apply ev_loadcellN); exact rfl; infer_instance; infer_instance; exact rfl) | ((with_reducible apply (ev_loadint (t := 3))); exact rfl; infer_instance; infer_instance; (first | with_reducible assumption | omega)) | ((with_reducible apply (ev_loadbyte (t := 5))); exact rfl; infer_instance; infer_instance; (first | with_reducible assumption | omega)) | (go_simp; try with_reducible rfl))
      try simp only [Act.put, sA]; try simp only [sB, sC]
      refine' takeH (i := 4) (v := _) rfl (by kernel_rfl) (by kernel_rfl) (by kernel_rfl) (fun _ _ _ h => h) (yields_of (by rfl) (fun w' _ => ?_)) inferInstance ?_
      rotate_left
      · (go_simp; try with_reducible rfl)
      try simp only [Act.put, sA]; try simp only [sB, sC]
      refine' takeH (i := 5) (v := _) rfl (by kernel_rfl) (by kernel_rfl) (by kernel_rfl) (fun _ _ _ h => h) (yields_of (by rfl) (fun w' _ => ?_)) inferInstance ?_
      rotate_left
      · (first | ((with_reducible apply (ev_loadB (t := 5))); exact rfl; infer_instance; infer_instance; (first | with_reducible assumption | omega)) | ((with_reducible apply ev_loadrow); exact rfl; infer_instance; infer_instance; (first | with_reducible assumption | (with_reducible exact H32.size _) | kernel_rfl)) | ((with_reducible apply ev_loadcellN); exact rfl; infer_instance; infer_instance; exact rfl) | ((with_reducible apply (ev_loadint (t := 3))); exact rfl; infer_instance; infer_instance; (first | with_reducible assumption | omega)) | ((with_reducible apply (ev_loadbyte (t := 5))); exact rfl; infer_instance; infer_instance; (first | with_reducible assumption | omega)) | (go_simp; try with_reducible rfl))
      try simp only [Act.put, sA]; try simp only [sB, sC]
      refine' takeH (i := 6) (v := _) rfl (by kernel_rfl) (by kernel_rfl) (by kernel_rfl) (fun _ _ _ h => h) (yields_of (by rfl) (fun w' _ => ?_)) inferInstance ?_
      rotate_left
      · (first | ((with_reducible apply ev_lookMJ); exact rfl; exact rfl; infer_instance; (exact hid); (exact HL.out); (exact HS.out)))
      try simp only [Act.put, sA]; try simp only [sB, sC]
      refine' takeH (i := 7) (v := _) rfl (by kernel_rfl) (by kernel_rfl) (by kernel_rfl) (fun _ _ _ h => h) (yields_of (by rfl) (fun w' _ => ?_)) inferInstance ?_
      rotate_left
      · (go_simp; try with_reducible rfl)
      try simp only [Act.put, sA]; try simp only [sB, sC]
      refine' takeH (i := 8) (v := _) rfl (by kernel_rfl) (by kernel_rfl) (by kernel_rfl) (fun _ _ _ h => h) (yields_of (by rfl) (fun w' _ => ?_)) inferInstance ?_
      rotate_left
      · (go_simp; try with_reducible rfl)
      try simp only [Act.put, sA]; try simp only [sB, sC]
      refine' takeH (i := 9) (v := _) rfl (by kernel_rfl) (by kernel_rfl) (by kernel_rfl) (fun _ _ _ h => h) (yields_of (by rfl) (fun w' _ => ?_)) inferInstance ?_
      rotate_left
      · (go_simp; try with_reducible rfl)
      try simp only [Act.put, sA]; try simp only [sB, sC]
      refine goH (i := 10) (by kernel_rfl) rfl (fun K_ hK_ => ?_)
      rw [if_pos (by kernel_rfl)]
      refine wpr_of_list ?_
      (first | ((with_reducible apply (wpl_alloc (dst := some 8))); intro zl wzl _ _ _) | ((with_reducible apply wpl_alloc); intro z wz _ _ _))
      refine wpList_nil ?_
      unfold onlyN
      refine hK_.out _ _ inferInstance (fun _ => ?_)
      clear hK_ K_
      try simp only [Act.put, sA]; try simp only [sB, sC]
      refine goH (i := 11) (by kernel_rfl) rfl (fun K_ hK_ => ?_)
      rw [if_pos (by kernel_rfl)]
      refine wpr_of_list ?_
      (first | ((with_reducible apply wpl_storerow); exact rfl; exact rfl; infer_instance; infer_instance; (first | with_reducible assumption | (with_reducible exact H32.size _) | kernel_rfl); (first | with_reducible assumption | (with_reducible exact H32.size _) | kernel_rfl); (first | (with_reducible exact u8s_one _) | with_reducible assumption | kernel_rfl); intro ws _ _) | ((with_reducible apply wpl_storecell); exact rfl; exact rfl; infer_instance; exact rfl; (first | with_reducible assumption | omega | (focus (simp; done)) | (focus (simp; omega; done)) | decide); intro ws _ _) | ((with_reducible apply (wpl_storeint (t := 3))); exact rfl; exact rfl; infer_instance; (first | with_reducible assumption | omega); intro ws _ _) | ((with_reducible apply (wpl_storebyte (t := 5))); exact rfl; exact rfl; infer_instance; (first | with_reducible assumption | omega | (focus (simp; done)) | (focus (simp; omega; done)) | decide); (constructor <;> omega); intro ws _ _))
      refine wpList_nil ?_
      unfold onlyN
      refine hK_.out _ _ inferInstance (fun _ => ?_)
      clear hK_ K_
      try simp only [Act.put]
      refine' takeH (i := 12) (v := _) rfl (by kernel_rfl) (by kernel_rfl) (by kernel_rfl) (fun _ _ _ h => h) (yields_of (by rfl) (fun w' _ => ?_)) inferInstance ?_
      rotate_left
      · (go_simp; try with_reducible rfl)
      try simp only [Act.put, sA]; try simp only [sB, sC]
      refine wpAnyH_done (by kernel_rfl) ?_ _
      have hc0 : Chg nowhere w ws := stepN.chg
      have hJ0 : JS ws z S s := h.calm hc0 (fun _ _ hk => hk)
      have hC0 : Chg S w ws := hc0.mono (fun _ _ hk => hk.elim)
      go_wp2_with (first | go_skip | ((with_reducible apply wpl_alloc); intro z wz _ _ _) | ((with_reducible apply wpl_box_agg); exact rfl; intro z wz _ _ _) | ((with_reducible apply wpl_box_int); exact rfl; intro z wz _ _ _) | ((with_reducible apply wpl_box_slice); exact rfl; intro z wz _ _ _) | ((with_reducible apply wpl_box_str); exact rfl; intro z wz _ _ _) | ((with_reducible apply wpl_box_bool); exact rfl; intro z wz _ _ _) | ((with_reducible apply wpl_box_ptr); exact rfl; intro z wz _ _ _) | ((with_reducible apply (wpl_guard (op := .load _ _))); exact rfl) | ((with_reducible apply wpl_loadrow); exact rfl; infer_instance; infer_instance; (first | with_reducible assumption | (with_reducible exact H32.size _) | kernel_rfl)) | ((with_reducible apply wpl_loadcellN); exact rfl; infer_instance; exact rfl) | ((with_reducible apply wpl_storerow); exact rfl; exact rfl; infer_instance; infer_instance; (first | with_reducible assumption | (with_reducible exact H32.size _) | kernel_rfl); (first | with_reducible assumption | (with_reducible exact H32.size _) | kernel_rfl); (first | (with_reducible exact u8s_one _) | with_reducible assumption | kernel_rfl); intro ws _ _) | ((with_reducible apply wpl_storecell); exact rfl; exact rfl; infer_instance; exact rfl; (first | with_reducible assumption | omega | (focus (simp; done)) | (focus (simp; omega; done)) | decide); intro ws _ _))
      refine (stale_calls (A := pA) (n := nb) (c := pc) (wh : Int) (nx : Int) la now k4 k5 h3 h4).mono ?_
      rintro e w5 ⟨rfl, hs5⟩
      rw [hst]
      have hJ5 : JS w5 z S s := hJ0.calm hs5.chg (fun _ _ hk => hk)
      have hC5 : Chg S w w5 := hC0.trans hs5.chg (fun _ _ hk => hk.elim)
      have hJ1 := hJ5
      have hC1 := hC5
      have hN1 : s.N ≤ 1000000000 := by omega
      have hm1 : s.m ≤ 1000000000 := hm
      have hR1 : HR w5 A (bs d) := inferInstance
      have hf1 : HB w5 zf 40 #[.int .i64 id, .slice A n c] := inferInstance
      go_wp2_with (first | go_skip | ((with_reducible apply wpl_alloc); intro z wz _ _ _) | ((with_reducible apply wpl_box_agg); exact rfl; intro z wz _ _ _) | ((with_reducible apply wpl_box_int); exact rfl; intro z wz _ _ _) | ((with_reducible apply wpl_box_slice); exact rfl; intro z wz _ _ _) | ((with_reducible apply wpl_box_str); exact rfl; intro z wz _ _ _) | ((with_reducible apply wpl_box_bool); exact rfl; intro z wz _ _ _) | ((with_reducible apply wpl_box_ptr); exact rfl; intro z wz _ _ _) | ((with_reducible apply (wpl_guard (op := .load _ _))); exact rfl) | ((with_reducible apply wpl_loadrow); exact rfl; infer_instance; infer_instance; (first | with_reducible assumption | (with_reducible exact H32.size _) | kernel_rfl)) | ((with_reducible apply wpl_loadcellN); exact rfl; infer_instance; exact rfl) | ((with_reducible apply wpl_storerow); exact rfl; exact rfl; infer_instance; infer_instance; (first | with_reducible assumption | (with_reducible exact H32.size _) | kernel_rfl); (first | with_reducible assumption | (with_reducible exact H32.size _) | kernel_rfl); (first | (with_reducible exact u8s_one _) | with_reducible assumption | kernel_rfl); intro ws _ _) | ((with_reducible apply wpl_storecell); exact rfl; exact rfl; infer_instance; exact rfl; (first | with_reducible assumption | omega | (focus (simp; done)) | (focus (simp; omega; done)) | decide); intro ws _ _))
      refine wp_region_N (nowhere) (by kernel_rfl) (fun wd _ _ => ?_)
      refine' takeH (i := 0) (v := _) rfl (by kernel_rfl) (by kernel_rfl) (by kernel_rfl) (fun _ _ _ h => h) (yields_of (by rfl) (fun w' _ => ?_)) inferInstance ?_
      rotate_left
      · (go_simp; try with_reducible rfl)
      try simp only [Act.put, sA]; try simp only [sB, sC]
      refine' takeH (i := 1) (v := _) rfl (by kernel_rfl) (by kernel_rfl) (by kernel_rfl) (fun _ _ _ h => h) (yields_of (by rfl) (fun w' _ => ?_)) inferInstance ?_
      rotate_left
      · (first | ((with_reducible apply (ev_loadB (t := 5))); exact rfl; infer_instance; infer_instance; (first | with_reducible assumption | omega)) | ((with_reducible apply ev_loadrow); exact rfl; infer_instance; infer_instance; (first | with_reducible assumption | (with_reducible exact H32.size _) | kernel_rfl)) | ((with_reducible apply ev_loadcellN); exact rfl; infer_instance; infer_instance; exact rfl) | ((with_reducible apply (ev_loadint (t := 3))); exact rfl; infer_instance; infer_instance; (first | with_reducible assumption | omega)) | ((with_reducible apply (ev_loadbyte (t := 5))); exact rfl; infer_instance; infer_instance; (first | with_reducible assumption | omega)) | (go_simp; try with_reducible rfl))
      try simp only [Act.put, sA]; try simp only [sB, sC]
      refine' takeH (i := 2) (v := _) rfl (by kernel_rfl) (by kernel_rfl) (by kernel_rfl) (fun _ _ _ h => h) (yields_of (by rfl) (fun w' _ => ?_)) inferInstance ?_
      rotate_left
      · (first | ((with_reducible apply ev_indexB0); exact rfl; infer_instance; infer_instance; (first | with_reducible assumption | omega); (first | with_reducible assumption | omega)) | ((with_reducible apply ev_indexB); exact rfl; exact rfl; infer_instance; infer_instance; (first | with_reducible assumption | omega); (first | with_reducible assumption | omega)) | (go_simp; try with_reducible rfl))
      try simp only [Act.put, sA]; try simp only [sB, sC]
      refine' takeH (i := 3) (v := _) rfl (by kernel_rfl) (by kernel_rfl) (by kernel_rfl) (fun _ _ _ h => h) (yields_of (by rfl) (fun w' _ => ?_)) inferInstance ?_
      rotate_left
      · (first | ((with_reducible apply (ev_loadB (t := 5))); exact rfl; infer_instance; infer_instance; (first | with_reducible assumption | omega)) | ((with_reducible apply ev_loadrow); exact rfl; infer_instance; infer_instance; (first | with_reducible assumption | (with_reducible exact H32.size _) | kernel_rfl)) | ((with_reducible apply ev_loadcellN); exact rfl; infer_instance; infer_instance; exact rfl) | ((with_reducible apply (ev_loadint (t := 3))); exact rfl; infer_instance; infer_instance; (first | with_reducible assumption | omega)) | ((with_reducible apply (ev_loadbyte (t := 5))); exact rfl; infer_instance; infer_instance; (first | with_reducible assumption | omega)) | (go_simp; try with_reducible rfl))
      try simp only [Act.put, sA]; try simp only [sB, sC]
      refine' takeH (i := 4) (v := _) rfl (by kernel_rfl) (by kernel_rfl) (by kernel_rfl) (fun _ _ _ h => h) (yields_of (by rfl) (fun w' _ => ?_)) inferInstance ?_
      rotate_left
      · (go_simp; try with_reducible rfl)
      try simp only [Act.put, sA]; try simp only [sB, sC]
      refine' takeH (i := 5) (v := _) rfl (by kernel_rfl) (by kernel_rfl) (by kernel_rfl) (fun _ _ _ h => h) (yields_of (by rfl) (fun w' _ => ?_)) inferInstance ?_
      rotate_left
      · (go_simp; try with_reducible rfl)
      try simp only [Act.put, sA]; try simp only [sB, sC]
      refine' takeH (i := 6) (v := _) rfl (by kernel_rfl) (by kernel_rfl) (by kernel_rfl) (fun _ _ _ h => h) (yields_of (by rfl) (fun w' _ => ?_)) inferInstance ?_
      rotate_left
      · (go_simp; try with_reducible rfl)
      try simp only [Act.put, sA]; try simp only [sB, sC]
      refine' takeH (i := 7) (v := _) rfl (by kernel_rfl) (by kernel_rfl) (by kernel_rfl) (fun _ _ _ h => h) (yields_of (by rfl) (fun w' _ => ?_)) inferInstance ?_
      rotate_left
      · (first | ((with_reducible apply (ev_loadB (t := 5))); exact rfl; infer_instance; infer_instance; (first | with_reducible assumption | omega)) | ((with_reducible apply ev_loadrow); exact rfl; infer_instance; infer_instance; (first | with_reducible assumption | (with_reducible exact H32.size _) | kernel_rfl)) | ((with_reducible apply ev_loadcellN); exact rfl; infer_instance; infer_instance; exact rfl) | ((with_reducible apply (ev_loadint (t := 3))); exact rfl; infer_instance; infer_instance; (first | with_reducible assumption | omega)) | ((with_reducible apply (ev_loadbyte (t := 5))); exact rfl; infer_instance; infer_instance; (first | with_reducible assumption | omega)) | (go_simp; try with_reducible rfl))
      try simp only [Act.put, sA]; try simp only [sB, sC]
      refine' takeH (i := 8) (v := _) rfl (by kernel_rfl) (by kernel_rfl) (by kernel_rfl) (fun _ _ _ h => h) (yields_of (by rfl) (fun w' _ => ?_)) inferInstance ?_
      rotate_left
      · (first | ((with_reducible apply ev_sl_l1); exact rfl; infer_instance; (first | with_reducible assumption | omega)) | ((with_reducible apply ev_sl_lh); exact rfl; exact rfl; exact rfl; infer_instance; (first | with_reducible assumption | omega); (first | with_reducible assumption | omega)) | ((with_reducible apply ev_sl_h); exact rfl; exact rfl; infer_instance; (first | with_reducible assumption | omega)) | ((with_reducible apply ev_sl_l); exact rfl; exact rfl; infer_instance; (first | with_reducible assumption | omega)) | (go_simp; try with_reducible rfl))
      try simp only [Act.put, sA]; try simp only [sB, sC]
      refine' takeH (i := 9) (v := _) rfl (by kernel_rfl) (by kernel_rfl) (by kernel_rfl) (fun _ _ _ h => h) (yields_of (by rfl) (fun w' _ => ?_)) inferInstance ?_
      rotate_left
      · (go_simp; try with_reducible rfl)
      try simp only [Act.put, sA]; try simp only [sB, sC]
      refine' takeH (i := 10) (v := _) rfl (by kernel_rfl) (by kernel_rfl) (by kernel_rfl) (fun _ _ _ h => h) (yields_of (by rfl) (fun w' _ => ?_)) inferInstance ?_
      rotate_left
      · (go_simp; try with_reducible rfl)
      try simp only [Act.put, sA]; try simp only [sB, sC]
      refine wpAnyH_done (by kernel_rfl) ?_ _
      rw [HW.out]
      have hJ9 : JS wd z S s := hJ1.calm (stepN (w0 := w5) (w := wd)).chg (fun _ _ hk => hk)
      have hC9 : Chg S w wd := hC1.trans (stepN (w0 := w5) (w := wd)).chg (fun _ _ hk => hk.elim)
      have hR9 : HR wd A (bs d) := inferInstance
      go_wp2_with (first | go_skip | ((with_reducible apply wpl_indexB0); exact rfl; infer_instance; infer_instance; (exact hn); omega) | ((with_reducible apply (wpl_loadB (t := 5))); exact rfl; infer_instance; infer_instance; (exact hk0)) | ((with_reducible apply wpl_alloc); intro z wz _ _ _) | ((with_reducible apply wpl_box_agg); exact rfl; intro z wz _ _ _) | ((with_reducible apply wpl_box_int); exact rfl; intro z wz _ _ _) | ((with_reducible apply wpl_box_slice); exact rfl; intro z wz _ _ _) | ((with_reducible apply wpl_box_str); exact rfl; intro z wz _ _ _) | ((with_reducible apply wpl_box_bool); exact rfl; intro z wz _ _ _) | ((with_reducible apply wpl_box_ptr); exact rfl; intro z wz _ _ _) | ((with_reducible apply (wpl_guard (op := .load _ _))); exact rfl) | ((with_reducible apply wpl_loadrow); exact rfl; infer_instance; infer_instance; (first | with_reducible assumption | (with_reducible exact H32.size _) | kernel_rfl)) | ((with_reducible apply wpl_loadcellN); exact rfl; infer_instance; exact rfl) | ((with_reducible apply wpl_storerow); exact rfl; exact rfl; infer_instance; infer_instance; (first | with_reducible assumption | (with_reducible exact H32.size _) | kernel_rfl); (first | with_reducible assumption | (with_reducible exact H32.size _) | kernel_rfl); (first | (with_reducible exact u8s_one _) | with_reducible assumption | kernel_rfl); intro ws _ _) | ((with_reducible apply wpl_storecell); exact rfl; exact rfl; infer_instance; exact rfl; (first | with_reducible assumption | omega | (focus (simp; done)) | (focus (simp; omega; done)) | decide); intro ws _ _))
      refine (err_calls hJ9 hN1).mono ?_
      rintro e w8 ⟨rfl, hJ2, hC2⟩
      go_wp2_with fail
      go_ret2
      exact TkPost.trans hC9 (TkPost.err hJ2 hC2)
    | true =>
      rw [late_drop hs (show staleB la now = true from hst)]
      go_enter Try.func17, Try.ntmps17
      go_wp2_with (first | go_skip | ((with_reducible apply (wpl_alloc (dst := some 4))); intro zf wzf _ _ _) | ((with_reducible apply (wpl_box_agg (dst := some 4))); exact rfl; intro zf wzf _ _ _) | ((with_reducible apply (wpl_box_int (dst := some 4))); exact rfl; intro zf wzf _ _ _) | ((with_reducible apply (wpl_box_slice (dst := some 4))); exact rfl; intro zf wzf _ _ _) | ((with_reducible apply (wpl_box_str (dst := some 4))); exact rfl; intro zf wzf _ _ _) | ((with_reducible apply (wpl_box_bool (dst := some 4))); exact rfl; intro zf wzf _ _ _) | ((with_reducible apply (wpl_box_ptr (dst := some 4))); exact rfl; intro zf wzf _ _ _) | ((with_reducible apply wpl_alloc); intro z wz _ _ _) | ((with_reducible apply wpl_box_agg); exact rfl; intro z wz _ _ _) | ((with_reducible apply wpl_box_int); exact rfl; intro z wz _ _ _) | ((with_reducible apply wpl_box_slice); exact rfl; intro z wz _ _ _) | ((with_reducible apply wpl_box_str); exact rfl; intro z wz _ _ _) | ((with_reducible apply wpl_box_bool); exact rfl; intro z wz _ _ _) | ((with_reducible apply wpl_box_ptr); exact rfl; intro z wz _ _ _) | ((with_reducible apply (wpl_guard (op := .load _ _))); exact rfl) | ((with_reducible apply wpl_loadrow); exact rfl; infer_instance; infer_instance; (first | with_reducible assumption | (with_reducible exact H32.size _) | kernel_rfl)) | ((with_reducible apply wpl_loadcellN); exact rfl; infer_instance; exact rfl) | ((with_reducible apply wpl_storerow); exact rfl; exact rfl; infer_instance; infer_instance; (first | with_reducible assumption | (with_reducible exact H32.size _) | kernel_rfl); (first | with_reducible assumption | (with_reducible exact H32.size _) | kernel_rfl); (first | (with_reducible exact u8s_one _) | with_reducible assumption | kernel_rfl); intro ws _ _) | ((with_reducible apply wpl_storecell); exact rfl; exact rfl; infer_instance; exact rfl; (first | with_reducible assumption | omega | (focus (simp; done)) | (focus (simp; omega; done)) | decide); intro ws _ _))
      refine wp_region_N (nowhere) (by kernel_rfl) (fun wd _ _ => ?_)
      refine' takeH (i := 0) (v := _) rfl (by kernel_rfl) (by kernel_rfl) (by kernel_rfl) (fun _ _ _ h => h) (yields_of (by rfl) (fun w' _ => ?_)) inferInstance ?_
      rotate_left
      · (go_simp; try with_reducible rfl)
      try simp only [Act.put, sA]; try simp only [sB, sC]
      refine' takeH (i := 1) (v := _) rfl (by kernel_rfl) (by kernel_rfl) (by kernel_rfl) (fun _ _ _ h => h) (yields_of (by rfl) (fun w' _ => ?_)) inferInstance ?_
      rotate_left
      · (go_simp; try with_reducible rfl)
      try simp only [Act.put, sA]; try simp only [sB, sC]
      refine' takeH (i := 2) (v := _) rfl (by kernel_rfl) (by kernel_rfl) (by kernel_rfl) (fun _ _ _ h => h) (yields_of (by rfl) (fun w' _ => ?_)) inferInstance ?_
      rotate_left
      · (go_simp; try with_reducible rfl)
      try simp only [Act.put, sA]; try simp only [sB, sC]
      refine' takeH (i := 3) (v := _) rfl (by kernel_rfl) (by kernel_rfl) (by kernel_rfl) (fun _ _ _ h => h) (yields_of (by rfl) (fun w' _ => ?_)) inferInstance ?_
      rotate_left
      · (first | ((with_reducible apply (ev_loadB (t := 5))); exact rfl; infer_instance; infer_instance; (first | with_reducible assumption | omega)) | ((with_reducible apply ev_loadrow); exact rfl; infer_instance; infer_instance; (first | with_reducible assumption | (with_reducible exact H32.size _) | kernel_rfl)) | ((with_reducible apply ev_loadcellN); exact rfl; infer_instance; infer_instance; exact rfl) | ((with_reducible apply (ev_loadint (t := 3))); exact rfl; infer_instance; infer_instance; (first | with_reducible assumption | omega)) | ((with_reducible apply (ev_loadbyte (t := 5))); exact rfl; infer_instance; infer_instance; (first | with_reducible assumption | omega)) | (go_simp; try with_reducible rfl))
      try simp only [Act.put, sA]; try simp only [sB, sC]
      refine' takeH (i := 4) (v := _) rfl (by kernel_rfl) (by kernel_rfl) (by kernel_rfl) (fun _ _ _ h => h) (yields_of (by rfl) (fun w' _ => ?_)) inferInstance ?_
      rotate_left
      · (go_simp; try with_reducible rfl)
      try simp only [Act.put, sA]; try simp only [sB, sC]
      refine' takeH (i := 5) (v := _) rfl (by kernel_rfl) (by kernel_rfl) (by kernel_rfl) (fun _ _ _ h => h) (yields_of (by rfl) (fun w' _ => ?_)) inferInstance ?_
      rotate_left
      · (first | ((with_reducible apply (ev_loadB (t := 5))); exact rfl; infer_instance; infer_instance; (first | with_reducible assumption | omega)) | ((with_reducible apply ev_loadrow); exact rfl; infer_instance; infer_instance; (first | with_reducible assumption | (with_reducible exact H32.size _) | kernel_rfl)) | ((with_reducible apply ev_loadcellN); exact rfl; infer_instance; infer_instance; exact rfl) | ((with_reducible apply (ev_loadint (t := 3))); exact rfl; infer_instance; infer_instance; (first | with_reducible assumption | omega)) | ((with_reducible apply (ev_loadbyte (t := 5))); exact rfl; infer_instance; infer_instance; (first | with_reducible assumption | omega)) | (go_simp; try with_reducible rfl))
      try simp only [Act.put, sA]; try simp only [sB, sC]
      refine' takeH (i := 6) (v := _) rfl (by kernel_rfl) (by kernel_rfl) (by kernel_rfl) (fun _ _ _ h => h) (yields_of (by rfl) (fun w' _ => ?_)) inferInstance ?_
      rotate_left
      · (first | ((with_reducible apply ev_lookMJ); exact rfl; exact rfl; infer_instance; (exact hid); (exact HL.out); (exact HS.out)))
      try simp only [Act.put, sA]; try simp only [sB, sC]
      refine' takeH (i := 7) (v := _) rfl (by kernel_rfl) (by kernel_rfl) (by kernel_rfl) (fun _ _ _ h => h) (yields_of (by rfl) (fun w' _ => ?_)) inferInstance ?_
      rotate_left
      · (go_simp; try with_reducible rfl)
      try simp only [Act.put, sA]; try simp only [sB, sC]
      refine' takeH (i := 8) (v := _) rfl (by kernel_rfl) (by kernel_rfl) (by kernel_rfl) (fun _ _ _ h => h) (yields_of (by rfl) (fun w' _ => ?_)) inferInstance ?_
      rotate_left
      · (go_simp; try with_reducible rfl)
      try simp only [Act.put, sA]; try simp only [sB, sC]
      refine' takeH (i := 9) (v := _) rfl (by kernel_rfl) (by kernel_rfl) (by kernel_rfl) (fun _ _ _ h => h) (yields_of (by rfl) (fun w' _ => ?_)) inferInstance ?_
      rotate_left
      · (go_simp; try with_reducible rfl)
      try simp only [Act.put, sA]; try simp only [sB, sC]
      refine goH (i := 10) (by kernel_rfl) rfl (fun K_ hK_ => ?_)
      rw [if_pos (by kernel_rfl)]
      refine wpr_of_list ?_
      (first | ((with_reducible apply (wpl_alloc (dst := some 8))); intro zl wzl _ _ _) | ((with_reducible apply wpl_alloc); intro z wz _ _ _))
      refine wpList_nil ?_
      unfold onlyN
      refine hK_.out _ _ inferInstance (fun _ => ?_)
      clear hK_ K_
      try simp only [Act.put, sA]; try simp only [sB, sC]
      refine goH (i := 11) (by kernel_rfl) rfl (fun K_ hK_ => ?_)
      rw [if_pos (by kernel_rfl)]
      refine wpr_of_list ?_
      (first | ((with_reducible apply wpl_storerow); exact rfl; exact rfl; infer_instance; infer_instance; (first | with_reducible assumption | (with_reducible exact H32.size _) | kernel_rfl); (first | with_reducible assumption | (with_reducible exact H32.size _) | kernel_rfl); (first | (with_reducible exact u8s_one _) | with_reducible assumption | kernel_rfl); intro ws _ _) | ((with_reducible apply wpl_storecell); exact rfl; exact rfl; infer_instance; exact rfl; (first | with_reducible assumption | omega | (focus (simp; done)) | (focus (simp; omega; done)) | decide); intro ws _ _) | ((with_reducible apply (wpl_storeint (t := 3))); exact rfl; exact rfl; infer_instance; (first | with_reducible assumption | omega); intro ws _ _) | ((with_reducible apply (wpl_storebyte (t := 5))); exact rfl; exact rfl; infer_instance; (first | with_reducible assumption | omega | (focus (simp; done)) | (focus (simp; omega; done)) | decide); (constructor <;> omega); intro ws _ _))
      refine wpList_nil ?_
      unfold onlyN
      refine hK_.out _ _ inferInstance (fun _ => ?_)
      clear hK_ K_
      try simp only [Act.put]
      refine' takeH (i := 12) (v := _) rfl (by kernel_rfl) (by kernel_rfl) (by kernel_rfl) (fun _ _ _ h => h) (yields_of (by rfl) (fun w' _ => ?_)) inferInstance ?_
      rotate_left
      · (go_simp; try with_reducible rfl)
      try simp only [Act.put, sA]; try simp only [sB, sC]
      refine wpAnyH_done (by kernel_rfl) ?_ _
      have hc0 : Chg nowhere w ws := stepN.chg
      have hJ0 : JS ws z S s := h.calm hc0 (fun _ _ hk => hk)
      have hC0 : Chg S w ws := hc0.mono (fun _ _ hk => hk.elim)
      go_wp2_with (first | go_skip | ((with_reducible apply wpl_alloc); intro z wz _ _ _) | ((with_reducible apply wpl_box_agg); exact rfl; intro z wz _ _ _) | ((with_reducible apply wpl_box_int); exact rfl; intro z wz _ _ _) | ((with_reducible apply wpl_box_slice); exact rfl; intro z wz _ _ _) | ((with_reducible apply wpl_box_str); exact rfl; intro z wz _ _ _) | ((with_reducible apply wpl_box_bool); exact rfl; intro z wz _ _ _) | ((with_reducible apply wpl_box_ptr); exact rfl; intro z wz _ _ _) | ((with_reducible apply (wpl_guard (op := .load _ _))); exact rfl) | ((with_reducible apply wpl_loadrow); exact rfl; infer_instance; infer_instance; (first | with_reducible assumption | (with_reducible exact H32.size _) | kernel_rfl)) | ((with_reducible apply wpl_loadcellN); exact rfl; infer_instance; exact rfl) | ((with_reducible apply wpl_storerow); exact rfl; exact rfl; infer_instance; infer_instance; (first | with_reducible assumption | (with_reducible exact H32.size _) | kernel_rfl); (first | with_reducible assumption | (with_reducible exact H32.size _) | kernel_rfl); (first | (with_reducible exact u8s_one _) | with_reducible assumption | kernel_rfl); intro ws _ _) | ((with_reducible apply wpl_storecell); exact rfl; exact rfl; infer_instance; exact rfl; (first | with_reducible assumption | omega | (focus (simp; done)) | (focus (simp; omega; done)) | decide); intro ws _ _))
      refine (stale_calls (A := pA) (n := nb) (c := pc) (wh : Int) (nx : Int) la now k4 k5 h3 h4).mono ?_
      rintro e w5 ⟨rfl, hs5⟩
      rw [hst]
      have hJ5 : JS w5 z S s := hJ0.calm hs5.chg (fun _ _ hk => hk)
      have hC5 : Chg S w w5 := hC0.trans hs5.chg (fun _ _ hk => hk.elim)
      have hR5 : HR w5 A (bs d) := inferInstance
      have hf5 : HB w5 zf 40 #[.int .i64 id, .slice A n c] := inferInstance
      have hbz : w.heap.size ≤ zf := by
        have hb9 : Born w zf := inferInstance
        rw [hb9.eq]
        exact Nat.le_refl _
      go_wp2_with (first | go_skip | ((with_reducible apply wpl_alloc); intro z wz _ _ _) | ((with_reducible apply wpl_box_agg); exact rfl; intro z wz _ _ _) | ((with_reducible apply wpl_box_int); exact rfl; intro z wz _ _ _) | ((with_reducible apply wpl_box_slice); exact rfl; intro z wz _ _ _) | ((with_reducible apply wpl_box_str); exact rfl; intro z wz _ _ _) | ((with_reducible apply wpl_box_bool); exact rfl; intro z wz _ _ _) | ((with_reducible apply wpl_box_ptr); exact rfl; intro z wz _ _ _) | ((with_reducible apply (wpl_guard (op := .load _ _))); exact rfl) | ((with_reducible apply wpl_loadrow); exact rfl; infer_instance; infer_instance; (first | with_reducible assumption | (with_reducible exact H32.size _) | kernel_rfl)) | ((with_reducible apply wpl_loadcellN); exact rfl; infer_instance; exact rfl) | ((with_reducible apply wpl_storerow); exact rfl; exact rfl; infer_instance; infer_instance; (first | with_reducible assumption | (with_reducible exact H32.size _) | kernel_rfl); (first | with_reducible assumption | (with_reducible exact H32.size _) | kernel_rfl); (first | (with_reducible exact u8s_one _) | with_reducible assumption | kernel_rfl); intro ws _ _) | ((with_reducible apply wpl_storecell); exact rfl; exact rfl; infer_instance; exact rfl; (first | with_reducible assumption | omega | (focus (simp; done)) | (focus (simp; omega; done)) | decide); intro ws _ _))
      refine (drop_calls id hJ5 (by omega) hid).mono ?_
      rintro e w7 ⟨rfl, hJ1, hC7⟩
      have hC1 : Chg S w w7 := hC5.trans hC7 (fun _ _ hk => hk)
      have hN1 : (s.drop id).N ≤ 1000000000 := by have := drop_N s id; omega
      have hm1 : (s.drop id).m ≤ 1000000000 := by have := drop_m s id; omega
      have hR1 : HR w7 A (bs d) := ⟨hR5.out.chg hC7 ho⟩
      have hnS : ¬ S zf := fun hk => by have := h.low zf hk; omega
      have hf1 : HB w7 zf 40 #[.int .i64 id, .slice A n c] := ⟨hf5.out.chg hC7 hnS⟩
      clear hC7 hC5 hJ5 hR5 hf5
      go_wp2_with (first | go_skip | ((with_reducible apply wpl_alloc); intro z wz _ _ _) | ((with_reducible apply wpl_box_agg); exact rfl; intro z wz _ _ _) | ((with_reducible apply wpl_box_int); exact rfl; intro z wz _ _ _) | ((with_reducible apply wpl_box_slice); exact rfl; intro z wz _ _ _) | ((with_reducible apply wpl_box_str); exact rfl; intro z wz _ _ _) | ((with_reducible apply wpl_box_bool); exact rfl; intro z wz _ _ _) | ((with_reducible apply wpl_box_ptr); exact rfl; intro z wz _ _ _) | ((with_reducible apply (wpl_guard (op := .load _ _))); exact rfl) | ((with_reducible apply wpl_loadrow); exact rfl; infer_instance; infer_instance; (first | with_reducible assumption | (with_reducible exact H32.size _) | kernel_rfl)) | ((with_reducible apply wpl_loadcellN); exact rfl; infer_instance; exact rfl) | ((with_reducible apply wpl_storerow); exact rfl; exact rfl; infer_instance; infer_instance; (first | with_reducible assumption | (with_reducible exact H32.size _) | kernel_rfl); (first | with_reducible assumption | (with_reducible exact H32.size _) | kernel_rfl); (first | (with_reducible exact u8s_one _) | with_reducible assumption | kernel_rfl); intro ws _ _) | ((with_reducible apply wpl_storecell); exact rfl; exact rfl; infer_instance; exact rfl; (first | with_reducible assumption | omega | (focus (simp; done)) | (focus (simp; omega; done)) | decide); intro ws _ _))
      refine wp_region_N (nowhere) (by kernel_rfl) (fun wd _ _ => ?_)
      refine' takeH (i := 0) (v := _) rfl (by kernel_rfl) (by kernel_rfl) (by kernel_rfl) (fun _ _ _ h => h) (yields_of (by rfl) (fun w' _ => ?_)) inferInstance ?_
      rotate_left
      · (go_simp; try with_reducible rfl)
      try simp only [Act.put, sA]; try simp only [sB, sC]
      refine' takeH (i := 1) (v := _) rfl (by kernel_rfl) (by kernel_rfl) (by kernel_rfl) (fun _ _ _ h => h) (yields_of (by rfl) (fun w' _ => ?_)) inferInstance ?_
      rotate_left
      · (first | ((with_reducible apply (ev_loadB (t := 5))); exact rfl; infer_instance; infer_instance; (first | with_reducible assumption | omega)) | ((with_reducible apply ev_loadrow); exact rfl; infer_instance; infer_instance; (first | with_reducible assumption | (with_reducible exact H32.size _) | kernel_rfl)) | ((with_reducible apply ev_loadcellN); exact rfl; infer_instance; infer_instance; exact rfl) | ((with_reducible apply (ev_loadint (t := 3))); exact rfl; infer_instance; infer_instance; (first | with_reducible assumption | omega)) | ((with_reducible apply (ev_loadbyte (t := 5))); exact rfl; infer_instance; infer_instance; (first | with_reducible assumption | omega)) | (go_simp; try with_reducible rfl))
      try simp only [Act.put, sA]; try simp only [sB, sC]
      refine' takeH (i := 2) (v := _) rfl (by kernel_rfl) (by kernel_rfl) (by kernel_rfl) (fun _ _ _ h => h) (yields_of (by rfl) (fun w' _ => ?_)) inferInstance ?_
      rotate_left
      · (first | ((with_reducible apply ev_indexB0); exact rfl; infer_instance; infer_instance; (first | with_reducible assumption | omega); (first | with_reducible assumption | omega)) | ((with_reducible apply ev_indexB); exact rfl; exact rfl; infer_instance; infer_instance; (first | with_reducible assumption | omega); (first | with_reducible assumption | omega)) | (go_simp; try with_reducible rfl))
      try simp only [Act.put, sA]; try simp only [sB, sC]
      refine' takeH (i := 3) (v := _) rfl (by kernel_rfl) (by kernel_rfl) (by kernel_rfl) (fun _ _ _ h => h) (yields_of (by rfl) (fun w' _ => ?_)) inferInstance ?_
      rotate_left
      · (first | ((with_reducible apply (ev_loadB (t := 5))); exact rfl; infer_instance; infer_instance; (first | with_reducible assumption | omega)) | ((with_reducible apply ev_loadrow); exact rfl; infer_instance; infer_instance; (first | with_reducible assumption | (with_reducible exact H32.size _) | kernel_rfl)) | ((with_reducible apply ev_loadcellN); exact rfl; infer_instance; infer_instance; exact rfl) | ((with_reducible apply (ev_loadint (t := 3))); exact rfl; infer_instance; infer_instance; (first | with_reducible assumption | omega)) | ((with_reducible apply (ev_loadbyte (t := 5))); exact rfl; infer_instance; infer_instance; (first | with_reducible assumption | omega)) | (go_simp; try with_reducible rfl))
      try simp only [Act.put, sA]; try simp only [sB, sC]
      refine' takeH (i := 4) (v := _) rfl (by kernel_rfl) (by kernel_rfl) (by kernel_rfl) (fun _ _ _ h => h) (yields_of (by rfl) (fun w' _ => ?_)) inferInstance ?_
      rotate_left
      · (go_simp; try with_reducible rfl)
      try simp only [Act.put, sA]; try simp only [sB, sC]
      refine' takeH (i := 5) (v := _) rfl (by kernel_rfl) (by kernel_rfl) (by kernel_rfl) (fun _ _ _ h => h) (yields_of (by rfl) (fun w' _ => ?_)) inferInstance ?_
      rotate_left
      · (go_simp; try with_reducible rfl)
      try simp only [Act.put, sA]; try simp only [sB, sC]
      refine' takeH (i := 6) (v := _) rfl (by kernel_rfl) (by kernel_rfl) (by kernel_rfl) (fun _ _ _ h => h) (yields_of (by rfl) (fun w' _ => ?_)) inferInstance ?_
      rotate_left
      · (go_simp; try with_reducible rfl)
      try simp only [Act.put, sA]; try simp only [sB, sC]
      refine' takeH (i := 7) (v := _) rfl (by kernel_rfl) (by kernel_rfl) (by kernel_rfl) (fun _ _ _ h => h) (yields_of (by rfl) (fun w' _ => ?_)) inferInstance ?_
      rotate_left
      · (first | ((with_reducible apply (ev_loadB (t := 5))); exact rfl; infer_instance; infer_instance; (first | with_reducible assumption | omega)) | ((with_reducible apply ev_loadrow); exact rfl; infer_instance; infer_instance; (first | with_reducible assumption | (with_reducible exact H32.size _) | kernel_rfl)) | ((with_reducible apply ev_loadcellN); exact rfl; infer_instance; infer_instance; exact rfl) | ((with_reducible apply (ev_loadint (t := 3))); exact rfl; infer_instance; infer_instance; (first | with_reducible assumption | omega)) | ((with_reducible apply (ev_loadbyte (t := 5))); exact rfl; infer_instance; infer_instance; (first | with_reducible assumption | omega)) | (go_simp; try with_reducible rfl))
      try simp only [Act.put, sA]; try simp only [sB, sC]
      refine' takeH (i := 8) (v := _) rfl (by kernel_rfl) (by kernel_rfl) (by kernel_rfl) (fun _ _ _ h => h) (yields_of (by rfl) (fun w' _ => ?_)) inferInstance ?_
      rotate_left
      · (first | ((with_reducible apply ev_sl_l1); exact rfl; infer_instance; (first | with_reducible assumption | omega)) | ((with_reducible apply ev_sl_lh); exact rfl; exact rfl; exact rfl; infer_instance; (first | with_reducible assumption | omega); (first | with_reducible assumption | omega)) | ((with_reducible apply ev_sl_h); exact rfl; exact rfl; infer_instance; (first | with_reducible assumption | omega)) | ((with_reducible apply ev_sl_l); exact rfl; exact rfl; infer_instance; (first | with_reducible assumption | omega)) | (go_simp; try with_reducible rfl))
      try simp only [Act.put, sA]; try simp only [sB, sC]
      refine' takeH (i := 9) (v := _) rfl (by kernel_rfl) (by kernel_rfl) (by kernel_rfl) (fun _ _ _ h => h) (yields_of (by rfl) (fun w' _ => ?_)) inferInstance ?_
      rotate_left
      · (go_simp; try with_reducible rfl)
      try simp only [Act.put, sA]; try simp only [sB, sC]
      refine' takeH (i := 10) (v := _) rfl (by kernel_rfl) (by kernel_rfl) (by kernel_rfl) (fun _ _ _ h => h) (yields_of (by rfl) (fun w' _ => ?_)) inferInstance ?_
      rotate_left
      · (go_simp; try with_reducible rfl)
      try simp only [Act.put, sA]; try simp only [sB, sC]
      refine wpAnyH_done (by kernel_rfl) ?_ _
      rw [HW.out]
      have hJ9 : JS wd z S (s.drop id) := hJ1.calm (stepN (w0 := w7) (w := wd)).chg (fun _ _ hk => hk)
      have hC9 : Chg S w wd := hC1.trans (stepN (w0 := w7) (w := wd)).chg (fun _ _ hk => hk.elim)
      have hR9 : HR wd A (bs d) := inferInstance
      go_wp2_with (first | go_skip | ((with_reducible apply wpl_indexB0); exact rfl; infer_instance; infer_instance; (exact hn); omega) | ((with_reducible apply (wpl_loadB (t := 5))); exact rfl; infer_instance; infer_instance; (exact hk0)) | ((with_reducible apply wpl_alloc); intro z wz _ _ _) | ((with_reducible apply wpl_box_agg); exact rfl; intro z wz _ _ _) | ((with_reducible apply wpl_box_int); exact rfl; intro z wz _ _ _) | ((with_reducible apply wpl_box_slice); exact rfl; intro z wz _ _ _) | ((with_reducible apply wpl_box_str); exact rfl; intro z wz _ _ _) | ((with_reducible apply wpl_box_bool); exact rfl; intro z wz _ _ _) | ((with_reducible apply wpl_box_ptr); exact rfl; intro z wz _ _ _) | ((with_reducible apply (wpl_guard (op := .load _ _))); exact rfl) | ((with_reducible apply wpl_loadrow); exact rfl; infer_instance; infer_instance; (first | with_reducible assumption | (with_reducible exact H32.size _) | kernel_rfl)) | ((with_reducible apply wpl_loadcellN); exact rfl; infer_instance; exact rfl) | ((with_reducible apply wpl_storerow); exact rfl; exact rfl; infer_instance; infer_instance; (first | with_reducible assumption | (with_reducible exact H32.size _) | kernel_rfl); (first | with_reducible assumption | (with_reducible exact H32.size _) | kernel_rfl); (first | (with_reducible exact u8s_one _) | with_reducible assumption | kernel_rfl); intro ws _ _) | ((with_reducible apply wpl_storecell); exact rfl; exact rfl; infer_instance; exact rfl; (first | with_reducible assumption | omega | (focus (simp; done)) | (focus (simp; omega; done)) | decide); intro ws _ _))
      refine (err_calls hJ9 hN1).mono ?_
      rintro e w8 ⟨rfl, hJ2, hC2⟩
      go_wp2_with fail
      go_ret2
      exact TkPost.trans hC9 (TkPost.err hJ2 hC2)
theorem take_calls (id now : Int) {A : Option Addr} {n c : Nat} {d : List UInt8} {w : World} {z : Nat} {S : Nat → Prop} {s : St} (h : JS w z S s) (hN : s.N ≤ 100000000) (hm : s.m ≤ 1000000000) (hid : (Lit.int .i64 id).wf = true) (hp : Rd w A (bs d)) (ho : Apart S A (bs d)) (hn : d.length = n) (hcc : n ≤ c) (hn2 : n ≤ 1000)
    (h3 : -9223372036854775808 ≤ now) (h4 : now ≤ 9223372036854775807) :
    Calls Try.prog 17 #[.pointer (some ⟨z, 0, none⟩), .agg #[.int .i64 id, .slice A n c], .int .i64 now] w (TkPost z S w (takeS s id d now)) := by
  rcases Nat.eq_zero_or_pos n with k0 | k0
  · exact take0_calls id now h hN hm hid hp ho hn hcc hn2 h3 h4 k0
  · obtain ⟨q, hq⟩ : ∃ q, (bget d 0).toNat / 16 = q := ⟨_, rfl⟩
    rcases q with _ | _ | _ | q
    · exact take1_calls id now h hN hm hid hp ho hn hcc hn2 h3 h4 k0 hq
    · exact take2_calls id now h hN hm hid hp ho hn hcc hn2 h3 h4 k0 hq
    · exact take3_calls id now h hN hm hid hp ho hn hcc hn2 h3 h4 k0 hq
    · exact take4_calls id now h hN hm hid hp ho hn hcc hn2 h3 h4 k0 (by omega)
end Go.Proofs.Ytmeeopfdplaiaaa
