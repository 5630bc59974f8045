/- DrJ -/
import Derived.Test.YteieielodooglaaGreatTsPlain
open Go Go.RowKit
namespace Go.Proofs.YteieielodooglaaGreat
set_option maxRecDepth 100000 in
set_option maxHeartbeats 6400000 in
theorem directorAssigns_calls {A : Option Addr} {n c : Nat} {P : List TargetR} {w : World} [hr : HR w A (cellsOf P)] (hl : P.length = n) (hn9 : n ≤ 9223372036854775807) :
    Calls Tryz.prog 6 #[.slice A n c] w fun e w' => e = .returned (.bool true) ∧ Chg nowhere w w' := by
  have HRR := Lib.hid hr.out
  have HL := Lib.hid hl
  by_cases c0 : 20 < n
  · have c0I : 20 < (n : Int) := by omega
    go_enter Tryz.func6, Tryz.ntmps6
    go_wp2_with fail
    go_ret
    exact ⟨rfl, (stepN (w0 := w)).chg⟩
  have c0I : ¬ 20 < (n : Int) := by omega
  go_enter Tryz.func6, Tryz.ntmps6
  go_wp2_with fail
  go_loopw [3] (fun iv wr => ∃ k : Nat, k ≤ n ∧ iv = .int .i64 (k : Int) ∧ Step nowhere w wr) (fun iv _ => n - (intOf iv).toNat)
  case atStart => exact ⟨0, Nat.zero_le _, rfl, stepN⟩
  case round =>
    obtain ⟨k, hk, rfl, st⟩ := hrel
    have nr : Nw w wr := ⟨st.chg⟩
    have hrw : HR wr A (cellsOf P) := ⟨HRR.out.later st.chg⟩
    by_cases hlt : k < n
    · have hltI : (k : Int) < n := by omega
      have hkl : k < P.length := by omega
      by_cases c3 : 100 < IntKind.i64.wrap (IntKind.i64.wrap (((strL (gt P k).l).size : Int) + ((strL (gt P k).hw).size : Int)) + ((strL (gt P k).ecu).size : Int))
      · go_wp2_with fail
        refine wp_region_N (nowhere) (by kernel_rfl) (fun wd _ _ => ?_)
        refine' takeH (i := 0) (v := _) rfl (by kernel_rfl) (by kernel_rfl) (by kernel_rfl) (fun _ _ _ h => h) (yields_of (by rfl) (fun w' _ => ?_)) inferInstance ?_
        rotate_left
        · (go_simp; try with_reducible rfl)
        try simp only [Act.put, sA]; try simp only [sB, sC]
        refine' takeH (i := 1) (v := _) rfl (by kernel_rfl) (by kernel_rfl) (by kernel_rfl) (fun _ _ _ h => h) (yields_of (by rfl) (fun w' _ => ?_)) inferInstance ?_
        rotate_left
        · (go_simp; try with_reducible rfl)
        try simp only [Act.put, sA]; try simp only [sB, sC]
        refine' takeH (i := 2) (v := _) rfl (by kernel_rfl) (by kernel_rfl) (by kernel_rfl) (fun _ _ _ h => h) (yields_of (by rfl) (fun w' _ => ?_)) inferInstance ?_
        rotate_left
        · ((with_reducible apply (ev_indexE (α := TargetR) (t := 40))); (exact rfl); (exact rfl); infer_instance; infer_instance; (first | (with_reducible assumption) | omega | (focus (simp; done)) | (focus (simp; omega; done)) | decide); (exact rfl); (decide); (first | (with_reducible assumption) | omega | (focus (simp; done)) | (focus (simp; omega; done)) | decide))
        try simp only [Act.put, sA]; try simp only [sB, sC]
        refine' takeH (i := 3) (v := _) rfl (by kernel_rfl) (by kernel_rfl) (by kernel_rfl) (fun _ _ _ h => h) (yields_of (by rfl) (fun w' _ => ?_)) inferInstance ?_
        rotate_left
        · ((with_reducible apply (ev_fieldE (t := 42))); (exact Tryz.underlying42); (exact rfl); (kernel_rfl); (exact rfl); infer_instance; (exact cells_pos (by decide) (by omega)))
        try simp only [Act.put, sA]; try simp only [sB, sC]
        refine' takeH (i := 4) (v := _) rfl (by kernel_rfl) (by kernel_rfl) (by kernel_rfl) (fun _ _ _ h => h) (yields_of (by rfl) (fun w' _ => ?_)) inferInstance ?_
        rotate_left
        · ((with_reducible apply (ev_loadF (α := TargetR) (k := k) (j := 0) (s := 37))); infer_instance; (exact rfl); infer_instance; (exact rfl); (exact hkl); (exact tgc_0 _))
        try simp only [Act.put, sA]; try simp only [sB, sC]
        refine' takeH (i := 5) (v := _) rfl (by kernel_rfl) (by kernel_rfl) (by kernel_rfl) (fun _ _ _ h => h) (yields_of (by rfl) (fun w' _ => ?_)) inferInstance ?_
        rotate_left
        · (go_simp; try with_reducible rfl)
        try simp only [Act.put, sA]; try simp only [sB, sC]
        refine' takeH (i := 6) (v := _) rfl (by kernel_rfl) (by kernel_rfl) (by kernel_rfl) (fun _ _ _ h => h) (yields_of (by rfl) (fun w' _ => ?_)) inferInstance ?_
        rotate_left
        · (go_simp; try with_reducible rfl)
        try simp only [Act.put, sA]; try simp only [sB, sC]
        refine' takeH (i := 7) (v := _) rfl (by kernel_rfl) (by kernel_rfl) (by kernel_rfl) (fun _ _ _ h => h) (yields_of (by rfl) (fun w' _ => ?_)) inferInstance ?_
        rotate_left
        · (go_simp; try with_reducible rfl)
        try simp only [Act.put, sA]; try simp only [sB, sC]
        refine' takeH (i := 8) (v := _) rfl (by kernel_rfl) (by kernel_rfl) (by kernel_rfl) (fun _ _ _ h => h) (yields_of (by rfl) (fun w' _ => ?_)) inferInstance ?_
        rotate_left
        · ((with_reducible apply (ev_indexE (α := TargetR) (t := 40))); (exact rfl); (exact rfl); infer_instance; infer_instance; (first | (with_reducible assumption) | omega | (focus (simp; done)) | (focus (simp; omega; done)) | decide); (exact rfl); (decide); (first | (with_reducible assumption) | omega | (focus (simp; done)) | (focus (simp; omega; done)) | decide))
        try simp only [Act.put, sA]; try simp only [sB, sC]
        refine' takeH (i := 9) (v := _) rfl (by kernel_rfl) (by kernel_rfl) (by kernel_rfl) (fun _ _ _ h => h) (yields_of (by rfl) (fun w' _ => ?_)) inferInstance ?_
        rotate_left
        · ((with_reducible apply (ev_fieldE (t := 42))); (exact Tryz.underlying42); (exact rfl); (kernel_rfl); (exact rfl); infer_instance; (exact cells_pos (by decide) (by omega)))
        try simp only [Act.put, sA]; try simp only [sB, sC]
        refine' takeH (i := 10) (v := _) rfl (by kernel_rfl) (by kernel_rfl) (by kernel_rfl) (fun _ _ _ h => h) (yields_of (by rfl) (fun w' _ => ?_)) inferInstance ?_
        rotate_left
        · ((with_reducible apply (ev_loadF (α := TargetR) (k := k) (j := 34) (s := 37))); infer_instance; (exact rfl); infer_instance; (exact rfl); (exact hkl); (exact tgc_34 _))
        try simp only [Act.put, sA]; try simp only [sB, sC]
        refine' takeH (i := 11) (v := _) rfl (by kernel_rfl) (by kernel_rfl) (by kernel_rfl) (fun _ _ _ h => h) (yields_of (by rfl) (fun w' _ => ?_)) inferInstance ?_
        rotate_left
        · (go_simp; try with_reducible rfl)
        try simp only [Act.put, sA]; try simp only [sB, sC]
        refine' takeH (i := 12) (v := _) rfl (by kernel_rfl) (by kernel_rfl) (by kernel_rfl) (fun _ _ _ h => h) (yields_of (by rfl) (fun w' _ => ?_)) inferInstance ?_
        rotate_left
        · (go_simp; try with_reducible rfl)
        try simp only [Act.put, sA]; try simp only [sB, sC]
        refine' takeH (i := 13) (v := _) rfl (by kernel_rfl) (by kernel_rfl) (by kernel_rfl) (fun _ _ _ h => h) (yields_of (by rfl) (fun w' _ => ?_)) inferInstance ?_
        rotate_left
        · (go_simp; try with_reducible rfl)
        try simp only [Act.put, sA]; try simp only [sB, sC]
        refine' takeH (i := 14) (v := _) rfl (by kernel_rfl) (by kernel_rfl) (by kernel_rfl) (fun _ _ _ h => h) (yields_of (by rfl) (fun w' _ => ?_)) inferInstance ?_
        rotate_left
        · (go_simp; try with_reducible rfl)
        try simp only [Act.put, sA]; try simp only [sB, sC]
        refine' takeH (i := 15) (v := _) rfl (by kernel_rfl) (by kernel_rfl) (by kernel_rfl) (fun _ _ _ h => h) (yields_of (by rfl) (fun w' _ => ?_)) inferInstance ?_
        rotate_left
        · ((with_reducible apply (ev_indexE (α := TargetR) (t := 40))); (exact rfl); (exact rfl); infer_instance; infer_instance; (first | (with_reducible assumption) | omega | (focus (simp; done)) | (focus (simp; omega; done)) | decide); (exact rfl); (decide); (first | (with_reducible assumption) | omega | (focus (simp; done)) | (focus (simp; omega; done)) | decide))
        try simp only [Act.put, sA]; try simp only [sB, sC]
        refine' takeH (i := 16) (v := _) rfl (by kernel_rfl) (by kernel_rfl) (by kernel_rfl) (fun _ _ _ h => h) (yields_of (by rfl) (fun w' _ => ?_)) inferInstance ?_
        rotate_left
        · ((with_reducible apply (ev_fieldE (t := 42))); (exact Tryz.underlying42); (exact rfl); (kernel_rfl); (exact rfl); infer_instance; (exact cells_pos (by decide) (by omega)))
        try simp only [Act.put, sA]; try simp only [sB, sC]
        refine' takeH (i := 17) (v := _) rfl (by kernel_rfl) (by kernel_rfl) (by kernel_rfl) (fun _ _ _ h => h) (yields_of (by rfl) (fun w' _ => ?_)) inferInstance ?_
        rotate_left
        · ((with_reducible apply (ev_loadF (α := TargetR) (k := k) (j := 36) (s := 37))); infer_instance; (exact rfl); infer_instance; (exact rfl); (exact hkl); (exact tgc_36 _))
        try simp only [Act.put, sA]; try simp only [sB, sC]
        refine' takeH (i := 18) (v := _) rfl (by kernel_rfl) (by kernel_rfl) (by kernel_rfl) (fun _ _ _ h => h) (yields_of (by rfl) (fun w' _ => ?_)) inferInstance ?_
        rotate_left
        · (go_simp; try with_reducible rfl)
        try simp only [Act.put, sA]; try simp only [sB, sC]
        refine' takeH (i := 19) (v := _) rfl (by kernel_rfl) (by kernel_rfl) (by kernel_rfl) (fun _ _ _ h => h) (yields_of (by rfl) (fun w' _ => ?_)) inferInstance ?_
        rotate_left
        · (go_simp; try with_reducible rfl)
        try simp only [Act.put, sA]; try simp only [sB, sC]
        refine' takeH (i := 20) (v := _) rfl (by kernel_rfl) (by kernel_rfl) (by kernel_rfl) (fun _ _ _ h => h) (yields_of (by rfl) (fun w' _ => ?_)) inferInstance ?_
        rotate_left
        · (go_simp; try with_reducible rfl)
        try simp only [Act.put, sA]; try simp only [sB, sC]
        refine wpAnyH_done (by kernel_rfl) ?_ _
        go_wp2_with fail
        go_ret
        exact ⟨rfl, (stepN (w0 := w)).chg⟩
      · go_wp2_with fail
        refine wp_region_N (nowhere) (by kernel_rfl) (fun wd _ _ => ?_)
        refine' takeH (i := 0) (v := _) rfl (by kernel_rfl) (by kernel_rfl) (by kernel_rfl) (fun _ _ _ h => h) (yields_of (by rfl) (fun w' _ => ?_)) inferInstance ?_
        rotate_left
        · (go_simp; try with_reducible rfl)
        try simp only [Act.put, sA]; try simp only [sB, sC]
        refine' takeH (i := 1) (v := _) rfl (by kernel_rfl) (by kernel_rfl) (by kernel_rfl) (fun _ _ _ h => h) (yields_of (by rfl) (fun w' _ => ?_)) inferInstance ?_
        rotate_left
        · (go_simp; try with_reducible rfl)
        try simp only [Act.put, sA]; try simp only [sB, sC]
        refine' takeH (i := 2) (v := _) rfl (by kernel_rfl) (by kernel_rfl) (by kernel_rfl) (fun _ _ _ h => h) (yields_of (by rfl) (fun w' _ => ?_)) inferInstance ?_
        rotate_left
        · ((with_reducible apply (ev_indexE (α := TargetR) (t := 40))); (exact rfl); (exact rfl); infer_instance; infer_instance; (first | (with_reducible assumption) | omega | (focus (simp; done)) | (focus (simp; omega; done)) | decide); (exact rfl); (decide); (first | (with_reducible assumption) | omega | (focus (simp; done)) | (focus (simp; omega; done)) | decide))
        try simp only [Act.put, sA]; try simp only [sB, sC]
        refine' takeH (i := 3) (v := _) rfl (by kernel_rfl) (by kernel_rfl) (by kernel_rfl) (fun _ _ _ h => h) (yields_of (by rfl) (fun w' _ => ?_)) inferInstance ?_
        rotate_left
        · ((with_reducible apply (ev_fieldE (t := 42))); (exact Tryz.underlying42); (exact rfl); (kernel_rfl); (exact rfl); infer_instance; (exact cells_pos (by decide) (by omega)))
        try simp only [Act.put, sA]; try simp only [sB, sC]
        refine' takeH (i := 4) (v := _) rfl (by kernel_rfl) (by kernel_rfl) (by kernel_rfl) (fun _ _ _ h => h) (yields_of (by rfl) (fun w' _ => ?_)) inferInstance ?_
        rotate_left
        · ((with_reducible apply (ev_loadF (α := TargetR) (k := k) (j := 0) (s := 37))); infer_instance; (exact rfl); infer_instance; (exact rfl); (exact hkl); (exact tgc_0 _))
        try simp only [Act.put, sA]; try simp only [sB, sC]
        refine' takeH (i := 5) (v := _) rfl (by kernel_rfl) (by kernel_rfl) (by kernel_rfl) (fun _ _ _ h => h) (yields_of (by rfl) (fun w' _ => ?_)) inferInstance ?_
        rotate_left
        · (go_simp; try with_reducible rfl)
        try simp only [Act.put, sA]; try simp only [sB, sC]
        refine' takeH (i := 6) (v := _) rfl (by kernel_rfl) (by kernel_rfl) (by kernel_rfl) (fun _ _ _ h => h) (yields_of (by rfl) (fun w' _ => ?_)) inferInstance ?_
        rotate_left
        · (go_simp; try with_reducible rfl)
        try simp only [Act.put, sA]; try simp only [sB, sC]
        refine' takeH (i := 7) (v := _) rfl (by kernel_rfl) (by kernel_rfl) (by kernel_rfl) (fun _ _ _ h => h) (yields_of (by rfl) (fun w' _ => ?_)) inferInstance ?_
        rotate_left
        · (go_simp; try with_reducible rfl)
        try simp only [Act.put, sA]; try simp only [sB, sC]
        refine' takeH (i := 8) (v := _) rfl (by kernel_rfl) (by kernel_rfl) (by kernel_rfl) (fun _ _ _ h => h) (yields_of (by rfl) (fun w' _ => ?_)) inferInstance ?_
        rotate_left
        · ((with_reducible apply (ev_indexE (α := TargetR) (t := 40))); (exact rfl); (exact rfl); infer_instance; infer_instance; (first | (with_reducible assumption) | omega | (focus (simp; done)) | (focus (simp; omega; done)) | decide); (exact rfl); (decide); (first | (with_reducible assumption) | omega | (focus (simp; done)) | (focus (simp; omega; done)) | decide))
        try simp only [Act.put, sA]; try simp only [sB, sC]
        refine' takeH (i := 9) (v := _) rfl (by kernel_rfl) (by kernel_rfl) (by kernel_rfl) (fun _ _ _ h => h) (yields_of (by rfl) (fun w' _ => ?_)) inferInstance ?_
        rotate_left
        · ((with_reducible apply (ev_fieldE (t := 42))); (exact Tryz.underlying42); (exact rfl); (kernel_rfl); (exact rfl); infer_instance; (exact cells_pos (by decide) (by omega)))
        try simp only [Act.put, sA]; try simp only [sB, sC]
        refine' takeH (i := 10) (v := _) rfl (by kernel_rfl) (by kernel_rfl) (by kernel_rfl) (fun _ _ _ h => h) (yields_of (by rfl) (fun w' _ => ?_)) inferInstance ?_
        rotate_left
        · ((with_reducible apply (ev_loadF (α := TargetR) (k := k) (j := 34) (s := 37))); infer_instance; (exact rfl); infer_instance; (exact rfl); (exact hkl); (exact tgc_34 _))
        try simp only [Act.put, sA]; try simp only [sB, sC]
        refine' takeH (i := 11) (v := _) rfl (by kernel_rfl) (by kernel_rfl) (by kernel_rfl) (fun _ _ _ h => h) (yields_of (by rfl) (fun w' _ => ?_)) inferInstance ?_
        rotate_left
        · (go_simp; try with_reducible rfl)
        try simp only [Act.put, sA]; try simp only [sB, sC]
        refine' takeH (i := 12) (v := _) rfl (by kernel_rfl) (by kernel_rfl) (by kernel_rfl) (fun _ _ _ h => h) (yields_of (by rfl) (fun w' _ => ?_)) inferInstance ?_
        rotate_left
        · (go_simp; try with_reducible rfl)
        try simp only [Act.put, sA]; try simp only [sB, sC]
        refine' takeH (i := 13) (v := _) rfl (by kernel_rfl) (by kernel_rfl) (by kernel_rfl) (fun _ _ _ h => h) (yields_of (by rfl) (fun w' _ => ?_)) inferInstance ?_
        rotate_left
        · (go_simp; try with_reducible rfl)
        try simp only [Act.put, sA]; try simp only [sB, sC]
        refine' takeH (i := 14) (v := _) rfl (by kernel_rfl) (by kernel_rfl) (by kernel_rfl) (fun _ _ _ h => h) (yields_of (by rfl) (fun w' _ => ?_)) inferInstance ?_
        rotate_left
        · (go_simp; try with_reducible rfl)
        try simp only [Act.put, sA]; try simp only [sB, sC]
        refine' takeH (i := 15) (v := _) rfl (by kernel_rfl) (by kernel_rfl) (by kernel_rfl) (fun _ _ _ h => h) (yields_of (by rfl) (fun w' _ => ?_)) inferInstance ?_
        rotate_left
        · ((with_reducible apply (ev_indexE (α := TargetR) (t := 40))); (exact rfl); (exact rfl); infer_instance; infer_instance; (first | (with_reducible assumption) | omega | (focus (simp; done)) | (focus (simp; omega; done)) | decide); (exact rfl); (decide); (first | (with_reducible assumption) | omega | (focus (simp; done)) | (focus (simp; omega; done)) | decide))
        try simp only [Act.put, sA]; try simp only [sB, sC]
        refine' takeH (i := 16) (v := _) rfl (by kernel_rfl) (by kernel_rfl) (by kernel_rfl) (fun _ _ _ h => h) (yields_of (by rfl) (fun w' _ => ?_)) inferInstance ?_
        rotate_left
        · ((with_reducible apply (ev_fieldE (t := 42))); (exact Tryz.underlying42); (exact rfl); (kernel_rfl); (exact rfl); infer_instance; (exact cells_pos (by decide) (by omega)))
        try simp only [Act.put, sA]; try simp only [sB, sC]
        refine' takeH (i := 17) (v := _) rfl (by kernel_rfl) (by kernel_rfl) (by kernel_rfl) (fun _ _ _ h => h) (yields_of (by rfl) (fun w' _ => ?_)) inferInstance ?_
        rotate_left
        · ((with_reducible apply (ev_loadF (α := TargetR) (k := k) (j := 36) (s := 37))); infer_instance; (exact rfl); infer_instance; (exact rfl); (exact hkl); (exact tgc_36 _))
        try simp only [Act.put, sA]; try simp only [sB, sC]
        refine' takeH (i := 18) (v := _) rfl (by kernel_rfl) (by kernel_rfl) (by kernel_rfl) (fun _ _ _ h => h) (yields_of (by rfl) (fun w' _ => ?_)) inferInstance ?_
        rotate_left
        · (go_simp; try with_reducible rfl)
        try simp only [Act.put, sA]; try simp only [sB, sC]
        refine' takeH (i := 19) (v := _) rfl (by kernel_rfl) (by kernel_rfl) (by kernel_rfl) (fun _ _ _ h => h) (yields_of (by rfl) (fun w' _ => ?_)) inferInstance ?_
        rotate_left
        · (go_simp; try with_reducible rfl)
        try simp only [Act.put, sA]; try simp only [sB, sC]
        refine' takeH (i := 20) (v := _) rfl (by kernel_rfl) (by kernel_rfl) (by kernel_rfl) (fun _ _ _ h => h) (yields_of (by rfl) (fun w' _ => ?_)) inferInstance ?_
        rotate_left
        · (go_simp; try with_reducible rfl)
        try simp only [Act.put, sA]; try simp only [sB, sC]
        refine wpAnyH_done (by kernel_rfl) ?_ _
        go_wp2_with fail
        exact ⟨⟨k + 1, by omega, by go_num, stepN⟩, by simp [intOf]; omega⟩
    · have hltI : ¬ (k : Int) < n := by omega
      go_wp2_with (first | ((with_reducible apply wpl_build); (exact run_hB5 _)))
      refine (dirNew_calls (hB 5) _).mono ?_
      rintro e w1 ⟨zd, zr, z0, z1, rfl, st1, D1⟩
      have nw1 : Nw w w1 := ⟨nr.out.trans st1.chg (fun _ _ h => h)⟩
      have D1' : DrAt w w1 zd zr (DS.new (hB 5) z0 z1) := by
        obtain ⟨h1, h2, hl, h3, h4, hm, hs, zz, az, bz, ld, lr, la, lb⟩ := D1
        have hle : w.heap.size ≤ wr.heap.size := st.chg.size
        exact ⟨h1, h2, hl, h3, h4, hm, hs, zz, az, bz, Nat.le_trans hle ld, Nat.le_trans hle lr, newA_none _, newA_none _⟩
      have hd1 := D1'.hd
      clear D1
      go_wp2_with fail
      refine dirRepo_calls.mono ?_
      rintro e w2 ⟨rfl, rfl⟩
      go_wp2_with (first | ((with_reducible apply wpl_build); (exact run_hB0 _)) | ((with_reducible apply (wpl_guard (op := .build _ _))); (exact rfl)))
      refine (enrNew_calls D1' [97] [104, 48] zeroH (by decide +kernel) (by decide +kernel) riseE_nil (fun k h => by cases h) (show 0 < 4 by decide)).mono ?_
      rintro e w3 ⟨A', c', rfl, nw3, D3⟩
      clear D1' hd1
      have HD3 := Lib.hid D3
      clear D3
      go_wp2_with (first | ((with_reducible apply (wpl_alloc (dst := some 5))); intro z5 wz5 _ _ _))
      have hz5 : w3.heap.size ≤ z5 := Nat.le_of_eq (inferInstance : Born w3 z5).eq.symm
      have hzd3 := HD3.out.hd.out.lt
      have hzr3 := HD3.out.hr.out.lt
      have hdz : zd ≠ z5 := by omega
      have hzwz : w.heap.size ≤ z5 := Nat.le_trans nw3.out.size hz5
      have hrz : zr ≠ z5 := by omega
      have nw4 : Nw w wz5 := inferInstance
      have st4 : Step nowhere w3 wz5 := stepN
      have hI0 : InvA w wz5 zd zr z5 [] := by
        refine ⟨_, HD3.out.step, rfl, rfl, fun ad e => ?_, fun bd e => ?_⟩
        · have := HD3.out.ha.out.lt e
          omega
        · have := HD3.out.hb.out.lt e
          omega
      have HI0 := Lib.hid hI0
      have hz5w : HB wz5 z5 42 (RowC.enc zeroTR).toArray := HB.row_eqD (w := wz5) (g := z5) inferInstance zeroTR_enc.symm
      clear hI0 HD3 hzd3 hzr3 hz5
      go_loopw [6, 7] (fun sv iv wr => ∃ (j : Nat) (sm : Bool) (wt : TargetR), j ≤ n ∧ sv = .bool sm ∧ iv = .int .i64 (j : Int) ∧ Nw w wr ∧ HB wr z5 42 (RowC.enc wt).toArray ∧ Hid (InvA w wr zd zr z5 (if sm then [wt] else [])) ∧ Hid (if sm then wt.ecu = [97] ∧ wt.hw = [104, 48] else wt = zeroTR)) (fun _ iv _ => n - (intOf iv).toNat)
      case atStart => exact ⟨0, false, zeroTR, Nat.zero_le _, rfl, rfl, nw4, hz5w, HI0, Lib.hid rfl⟩
      case round =>
        clear nw1 nw3 nw4 st4 st1 hz5w HI0 nr hrw st
        obtain ⟨j, sm, wt, hj, rfl, rfl, nwr, hz, HI, HW⟩ := hrel
        have hra : HR wr A (cellsOf P) := ⟨HRR.out.chg nwr.out (fun _ _ _ h => h)⟩
        by_cases hjt : j < n
        · have hjI : (j : Int) < n := by omega
          have hkl : j < P.length := by have := HL.out; omega
          have hszp : (RowC.enc (gt P j)).toArray.size = 37 := tgR_len _
          have honp := enc_one (gt P j)
          by_cases hgood : (decide ((gt P j).hw = [104, 48]) && mayR ((gt P j).setE [97])) = true
          · rw [Bool.and_eq_true, decide_eq_true_eq] at hgood
            have HG := Lib.hid hgood
            have HT : Hid ((if sm then [wt] else []) = [] ∨ ∃ w2 : TargetR, (if sm then [wt] else []) = [w2] ∧ w2.ecu = [97]) := Lib.hid (by
              cases sm
              · exact .inl rfl
              · exact .inr ⟨wt, rfl, HW.out.1⟩)
            clear hgood
            go_wp2_with (first | ((with_reducible apply (wpl_indexE (α := TargetR) (t := 40))); (exact rfl); (exact rfl); infer_instance; infer_instance; (first | (with_reducible assumption) | omega | (focus (simp; done)) | (focus (simp; omega; done)) | decide); (exact rfl); (decide); (first | (with_reducible assumption) | omega | (focus (simp; done)) | (focus (simp; omega; done)) | decide)) | ((with_reducible apply (wpl_loadE (α := TargetR) (t := 42))); infer_instance; (exact rfl); infer_instance; (exact rfl); (decide); (first | (with_reducible assumption) | omega | (focus (simp; done)) | (focus (simp; omega; done)) | decide)))
            refine (asgG_calls HI.out HT.out hrz (gt P j) HG.out.1 HG.out.2).mono ?_
            rintro e w5 ⟨rfl, nw5, hz5a, HI5⟩
            have hra5 : HR w5 A (cellsOf P) := ⟨HRR.out.chg nw5.out (fun _ _ _ h => h)⟩
            have hlt36 : 36 < (RowC.enc (gt P j)).toArray.size := by rw [hszp]; decide
            clear hra hz HI HT nwr
            go_wp2_with (first | ((with_reducible apply (wpl_storecell (k := 36))); (exact rfl); (exact rfl); infer_instance; (exact rfl); (exact hlt36); intro wx _ hwx) | ((with_reducible apply wpl_storerow); (exact rfl); (exact rfl); infer_instance; infer_instance; (first | (with_reducible assumption) | (with_reducible exact H32.size _) | (with_reducible exact enc_sz _ rfl) | kernel_rfl); (first | (with_reducible assumption) | (with_reducible exact H32.size _) | (with_reducible exact enc_sz _ rfl) | kernel_rfl); (first | (with_reducible exact u8s_one _) | (with_reducible assumption) | (with_reducible exact enc_one _) | kernel_rfl); intro ws _ _) | ((with_reducible apply (wpl_indexE (α := TargetR) (t := 40))); (exact rfl); (exact rfl); infer_instance; infer_instance; (first | (with_reducible assumption) | omega | (focus (simp; done)) | (focus (simp; omega; done)) | decide); (exact rfl); (decide); (first | (with_reducible assumption) | omega | (focus (simp; done)) | (focus (simp; omega; done)) | decide)) | ((with_reducible apply (wpl_loadE (α := TargetR) (t := 42))); infer_instance; (exact rfl); infer_instance; (exact rfl); (decide); (first | (with_reducible assumption) | omega | (focus (simp; done)) | (focus (simp; omega; done)) | decide)))
            have hzx : HB wx z5 42 (RowC.enc ((gt P j).setE [97])).toArray := HB.row_eqD hwx (tg_setE (gt P j) [97])
            have HIx := Lib.hid (HI5.out.far (inferInstance : Ch (only z5) w5 wx).out hdz hrz)
            have hz5s : w.heap.size ≤ z5 := hzwz
            have nwx : Nw w wx := ⟨nw5.out.trans (inferInstance : Ch (only z5) w5 wx).out (fun x hx h => by have h' : x = z5 := h; omega)⟩
            obtain ⟨tw, htw⟩ : ∃ x, x = (gt P j).setE [97] := ⟨_, rfl⟩
            rw [← htw] at hzx HIx
            have HTE : Hid (tw.ecu = [97]) := Lib.hid (by rw [htw]; rfl)
            have HTH : Hid (tw.hw = [104, 48]) := Lib.hid (by rw [htw]; exact HG.out.1)
            clear hwx hz5a HI5 nw5 HW htw
            refine (assignedI_calls (T := [tw]) HIx.out (by simp)).mono ?_
            have hag : asgd [tw] [97] = some tw := by simp [asgd, HTE.out]
            have hat : asgT [tw] [97] = tw := by rw [asgT, hag]; rfl
            rw [hat, hag, show (some tw).isSome = true from rfl]
            rintro e w8 ⟨rfl, st8⟩
            clear hag hat
            have HI8 := Lib.hid (HIx.out.step (w' := w8))
            have hz8 : HB w8 z5 42 (RowC.enc (tw)).toArray := inferInstance
            have nw8 : Nw w w8 := inferInstance
            have hszw : (RowC.enc (tw)).toArray.size = 37 := tgR_len _
            have honw := enc_one (tw)
            have qq : ∀ w, (binOp .neq 42 (.agg (RowC.enc (tw)).toArray) (.agg (RowC.enc (tw)).toArray)).run Tryz.prog w = .ok (.bool false) w := fun w => by rw [neqTarget, tgBe_self]; rfl
            go_wp2_with (first | ((with_reducible apply (wpl_alloc (dst := some 8))); intro z8 wz8 _ _ _) | ((with_reducible apply (wpl_guard (op := .load _ _))); (exact rfl)) | ((with_reducible apply wpl_loadrow); (exact rfl); infer_instance; infer_instance; (first | (with_reducible assumption) | (with_reducible exact H32.size _) | (with_reducible exact enc_sz _ rfl) | kernel_rfl)) | ((with_reducible apply wpl_storerow); (exact rfl); (exact rfl); infer_instance; infer_instance; (first | (with_reducible assumption) | (with_reducible exact H32.size _) | (with_reducible exact enc_sz _ rfl) | kernel_rfl); (first | (with_reducible assumption) | (with_reducible exact H32.size _) | (with_reducible exact enc_sz _ rfl) | kernel_rfl); (first | (with_reducible exact u8s_one _) | (with_reducible assumption) | (with_reducible exact enc_one _) | kernel_rfl); intro ws _ _))
            obtain ⟨wq, hwq⟩ : ∃ x : World, x = ws := ⟨_, rfl⟩
            subst hwq
            have sq : Step nowhere w8 wq := stepN
            have HIq := Lib.hid (HI8.out.step (w' := wq))
            have hzq : HB wq z5 42 (RowC.enc (tw)).toArray := inferInstance
            have h8q : HB wq z8 42 (RowC.enc (tw)).toArray := inferInstance
            have nwq : Nw w wq := inferInstance
            clear hz8 nw8
            go_wp2_with fail
            refine (repoI_calls HIq.out).mono ?_
            rintro e w9 ⟨rfl, rfl⟩
            go_wp2_with fail
            refine (targetsI_calls HIq.out (by simp)).mono ?_
            rintro e w10 ⟨A6, c6, rfl, st10⟩
            have HI10 := Lib.hid (HIq.out.step (w' := w10))
            have hz10 : HB w10 z5 42 (RowC.enc (tw)).toArray := inferInstance
            have nw10 : Nw w w10 := inferInstance
            have hq : ((strL tw.hw).toList == [104, 48]) = true := by rw [strL_list, HTH.out]; rfl
            go_wp2_with (first | ((with_reducible apply (wpl_loadcellN (k := 34))); (exact rfl); infer_instance; (exact tgc_34 _)) | ((with_reducible apply (wpl_guard (op := .load _ _))); (exact rfl)) | ((with_reducible apply (wpl_guard (op := .fieldAddr _ _ _))); (exact rfl)))
            exact ⟨⟨j + 1, true, tw, by omega, rfl, by go_num, nw10, hz10, HI10, Lib.hid ⟨HTE.out, HTH.out⟩⟩, by simp [intOf]; omega⟩
          · have hbad : (decide ((gt P j).hw = [104, 48]) && mayR ((gt P j).setE [97])) = false := by rw [Bool.not_eq_true] at hgood; exact hgood
            clear hgood
            go_wp2_with (first | ((with_reducible apply (wpl_indexE (α := TargetR) (t := 40))); (exact rfl); (exact rfl); infer_instance; infer_instance; (first | (with_reducible assumption) | omega | (focus (simp; done)) | (focus (simp; omega; done)) | decide); (exact rfl); (decide); (first | (with_reducible assumption) | omega | (focus (simp; done)) | (focus (simp; omega; done)) | decide)) | ((with_reducible apply (wpl_loadE (α := TargetR) (t := 42))); infer_instance; (exact rfl); infer_instance; (exact rfl); (decide); (first | (with_reducible assumption) | omega | (focus (simp; done)) | (focus (simp; omega; done)) | decide)))
            refine (asgB_calls HI.out (gt P j) hbad).mono ?_
            rintro e w5 ⟨rfl, st5⟩
            have HI5 := Lib.hid (HI.out.step (w' := w5))
            have hz5a : HB w5 z5 42 (RowC.enc wt).toArray := inferInstance
            have nw5 : Nw w w5 := inferInstance
            clear hz HI nwr st5 hra
            cases sm
            case false =>
              obtain rfl : wt = zeroTR := HW.out
              have HIx : Hid (InvA w w5 zd zr z5 []) := Lib.hid HI5.out
              clear HI5 HW
              go_wp2_with fail
              refine (assignedI_calls (T := []) HIx.out (by simp)).mono ?_
              have hag : asgd [] [97] = none := by rfl
              have hat : asgT [] [97] = zeroTR := by rw [asgT, hag]; rfl
              rw [hat, hag, show ((none : Option TargetR)).isSome = false from rfl]
              rintro e w8 ⟨rfl, st8⟩
              clear hag hat
              have HI8 := Lib.hid (HIx.out.step (w' := w8))
              have hz8 : HB w8 z5 42 (RowC.enc (zeroTR)).toArray := inferInstance
              have nw8 : Nw w w8 := inferInstance
              have hszw : (RowC.enc (zeroTR)).toArray.size = 37 := tgR_len _
              have honw := enc_one (zeroTR)
              have qq : ∀ w, (binOp .neq 42 (.agg (RowC.enc (zeroTR)).toArray) (.agg (RowC.enc (zeroTR)).toArray)).run Tryz.prog w = .ok (.bool false) w := fun w => by rw [neqTarget, tgBe_self]; rfl
              go_wp2_with (first | ((with_reducible apply (wpl_alloc (dst := some 8))); intro z8 wz8 _ _ _) | ((with_reducible apply (wpl_guard (op := .load _ _))); (exact rfl)) | ((with_reducible apply wpl_loadrow); (exact rfl); infer_instance; infer_instance; (first | (with_reducible assumption) | (with_reducible exact H32.size _) | (with_reducible exact enc_sz _ rfl) | kernel_rfl)) | ((with_reducible apply wpl_storerow); (exact rfl); (exact rfl); infer_instance; infer_instance; (first | (with_reducible assumption) | (with_reducible exact H32.size _) | (with_reducible exact enc_sz _ rfl) | kernel_rfl); (first | (with_reducible assumption) | (with_reducible exact H32.size _) | (with_reducible exact enc_sz _ rfl) | kernel_rfl); (first | (with_reducible exact u8s_one _) | (with_reducible assumption) | (with_reducible exact enc_one _) | kernel_rfl); intro ws _ _))
              obtain ⟨wq, hwq⟩ : ∃ x : World, x = ws := ⟨_, rfl⟩
              subst hwq
              have sq : Step nowhere w8 wq := stepN
              have HIq := Lib.hid (HI8.out.step (w' := wq))
              have hzq : HB wq z5 42 (RowC.enc (zeroTR)).toArray := inferInstance
              have h8q : HB wq z8 42 (RowC.enc (zeroTR)).toArray := inferInstance
              have nwq : Nw w wq := inferInstance
              clear hz8 nw8
              go_wp2_with fail
              refine (repoI_calls HIq.out).mono ?_
              rintro e w9 ⟨rfl, rfl⟩
              go_wp2_with fail
              refine (targetsI_calls HIq.out (by simp)).mono ?_
              rintro e w10 ⟨A6, c6, rfl, st10⟩
              have HI10 := Lib.hid (HIq.out.step (w' := w10))
              have hz10 : HB w10 z5 42 (RowC.enc (zeroTR)).toArray := inferInstance
              have nw10 : Nw w w10 := inferInstance
              skip
              go_wp2_with fail
              exact ⟨⟨j + 1, false, zeroTR, by omega, rfl, by go_num, nw10, hz10, HI10, Lib.hid rfl⟩, by simp [intOf]; omega⟩
            case true =>
              have HIx : Hid (InvA w w5 zd zr z5 [wt]) := Lib.hid HI5.out
              have HTE : Hid (wt.ecu = [97]) := Lib.hid HW.out.1
              have HTH : Hid (wt.hw = [104, 48]) := Lib.hid HW.out.2
              clear HI5 HW
              go_wp2_with fail
              refine (assignedI_calls (T := [wt]) HIx.out (by simp)).mono ?_
              have hag : asgd [wt] [97] = some wt := by simp [asgd, HTE.out]
              have hat : asgT [wt] [97] = wt := by rw [asgT, hag]; rfl
              rw [hat, hag, show (some wt).isSome = true from rfl]
              rintro e w8 ⟨rfl, st8⟩
              clear hag hat
              have HI8 := Lib.hid (HIx.out.step (w' := w8))
              have hz8 : HB w8 z5 42 (RowC.enc (wt)).toArray := inferInstance
              have nw8 : Nw w w8 := inferInstance
              have hszw : (RowC.enc (wt)).toArray.size = 37 := tgR_len _
              have honw := enc_one (wt)
              have qq : ∀ w, (binOp .neq 42 (.agg (RowC.enc (wt)).toArray) (.agg (RowC.enc (wt)).toArray)).run Tryz.prog w = .ok (.bool false) w := fun w => by rw [neqTarget, tgBe_self]; rfl
              go_wp2_with (first | ((with_reducible apply (wpl_alloc (dst := some 8))); intro z8 wz8 _ _ _) | ((with_reducible apply (wpl_guard (op := .load _ _))); (exact rfl)) | ((with_reducible apply wpl_loadrow); (exact rfl); infer_instance; infer_instance; (first | (with_reducible assumption) | (with_reducible exact H32.size _) | (with_reducible exact enc_sz _ rfl) | kernel_rfl)) | ((with_reducible apply wpl_storerow); (exact rfl); (exact rfl); infer_instance; infer_instance; (first | (with_reducible assumption) | (with_reducible exact H32.size _) | (with_reducible exact enc_sz _ rfl) | kernel_rfl); (first | (with_reducible assumption) | (with_reducible exact H32.size _) | (with_reducible exact enc_sz _ rfl) | kernel_rfl); (first | (with_reducible exact u8s_one _) | (with_reducible assumption) | (with_reducible exact enc_one _) | kernel_rfl); intro ws _ _))
              obtain ⟨wq, hwq⟩ : ∃ x : World, x = ws := ⟨_, rfl⟩
              subst hwq
              have sq : Step nowhere w8 wq := stepN
              have HIq := Lib.hid (HI8.out.step (w' := wq))
              have hzq : HB wq z5 42 (RowC.enc (wt)).toArray := inferInstance
              have h8q : HB wq z8 42 (RowC.enc (wt)).toArray := inferInstance
              have nwq : Nw w wq := inferInstance
              clear hz8 nw8
              go_wp2_with fail
              refine (repoI_calls HIq.out).mono ?_
              rintro e w9 ⟨rfl, rfl⟩
              go_wp2_with fail
              refine (targetsI_calls HIq.out (by simp)).mono ?_
              rintro e w10 ⟨A6, c6, rfl, st10⟩
              have HI10 := Lib.hid (HIq.out.step (w' := w10))
              have hz10 : HB w10 z5 42 (RowC.enc (wt)).toArray := inferInstance
              have nw10 : Nw w w10 := inferInstance
              have hq : ((strL wt.hw).toList == [104, 48]) = true := by rw [strL_list, HTH.out]; rfl
              go_wp2_with (first | ((with_reducible apply (wpl_loadcellN (k := 34))); (exact rfl); infer_instance; (exact tgc_34 _)) | ((with_reducible apply (wpl_guard (op := .load _ _))); (exact rfl)) | ((with_reducible apply (wpl_guard (op := .fieldAddr _ _ _))); (exact rfl)))
              exact ⟨⟨j + 1, true, wt, by omega, rfl, by go_num, nw10, hz10, HI10, Lib.hid ⟨HTE.out, HTH.out⟩⟩, by simp [intOf]; omega⟩
        · have hjI : ¬ (j : Int) < n := by omega
          go_wp2_with fail
          refine (dknown_calls _).mono ?_
          rintro e w5 ⟨rfl, st5⟩
          go_wp2_with fail
          go_ret
          exact ⟨rfl, (stepN (w0 := w)).chg⟩
end Go.Proofs.YteieielodooglaaGreat
