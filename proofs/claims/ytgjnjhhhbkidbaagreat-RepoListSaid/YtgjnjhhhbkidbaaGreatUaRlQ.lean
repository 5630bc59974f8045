/- RlQ -/
import Derived.Test.YtgjnjhhhbkidbaaGreatUaRlP
import Derived.Test.YtgjnjhhhbkidbaaGreatUaFwM
import Derived.Test.YtgjnjhhhbkidbaaGreatUaFwE
open Go Go.RowKit
namespace Go.Proofs.YtgjnjhhhbkidbaaGreat
def hR2 : H32 := ⟨2 :: List.replicate 31 0, by simp⟩
theorem run_hB2 (w : World) : (Instr.build 23 #[(0, .int .u8 2)]).run Tryz.prog w = .ok (.agg (u8s hR2.l)) w := by kernel_rfl
def LstI (w wr : World) (zr : Nat) : Prop := ∃ s, RpAt wr zr s ∧ TOk s.T ∧ ∀ x, rpO zr s x ∨ s.O x → w.heap.size ≤ x
set_option maxRecDepth 100000 in
set_option maxHeartbeats 6400000 in
theorem repoList_calls {A : Option Addr} {n c : Nat} {P : List TargetR} {w : World} [hr : HR w A (cellsOf P)] (hl : P.length = n) (hn9 : n ≤ 9223372036854775807) :
    Calls Tryz.prog 4 #[.slice A n c] w fun e w' => e = .returned (.bool true) ∧ Chg nowhere w w' := by
  have HRR := Lib.hid hr.out
  have HL := Lib.hid hl
  by_cases c0 : 40 < n
  · have c0I : 40 < (n : Int) := by omega
    go_enter Tryz.func4, Tryz.ntmps4
    go_wp2_with fail
    go_ret
    exact ⟨rfl, (stepN (w0 := w)).chg⟩
  have c0I : ¬ 40 < (n : Int) := by omega
  go_enter Tryz.func4, Tryz.ntmps4
  go_wp2_with fail
  go_loopw [3] (fun iv wr => ∃ k : Nat, k ≤ n ∧ iv = .int .i64 (k : Int) ∧ Step nowhere w wr) (fun iv _ => n - (intOf iv).toNat)
  case atStart => exact ⟨0, Nat.zero_le _, rfl, stepN⟩
  case round =>
    obtain ⟨k, hk, rfl, st⟩ := hrel
    have nr : Nw w wr := ⟨st.chg⟩
    have hrw : HR wr A (cellsOf P) := ⟨HRR.out.later st.chg⟩
    by_cases hlt : k < n
    · have hltI : (k : Int) < n := by omega
      have hkl : k < P.length := by omega
      by_cases c3 : 100 < IntKind.i64.wrap (IntKind.i64.wrap (((strL (gt P k).l).size : Int) + ((strL (gt P k).hw).size : Int)) + ((strL (gt P k).ecu).size : Int))
      · go_wp2_with fail
        refine wp_region_N (nowhere) (by kernel_rfl) (fun wd _ _ => ?_)
        refine' takeH (i := 0) (v := _) rfl (by kernel_rfl) (by kernel_rfl) (by kernel_rfl) (fun _ _ _ h => h) (yields_of (by rfl) (fun w' _ => ?_)) inferInstance ?_
        rotate_left
        · (go_simp; try with_reducible rfl)
        try simp only [Act.put, sA]; try simp only [sB, sC]
        refine' takeH (i := 1) (v := _) rfl (by kernel_rfl) (by kernel_rfl) (by kernel_rfl) (fun _ _ _ h => h) (yields_of (by rfl) (fun w' _ => ?_)) inferInstance ?_
        rotate_left
        · (go_simp; try with_reducible rfl)
        try simp only [Act.put, sA]; try simp only [sB, sC]
        refine' takeH (i := 2) (v := _) rfl (by kernel_rfl) (by kernel_rfl) (by kernel_rfl) (fun _ _ _ h => h) (yields_of (by rfl) (fun w' _ => ?_)) inferInstance ?_
        rotate_left
        · ((with_reducible apply (ev_indexE (α := TargetR) (t := 40))); (exact rfl); (exact rfl); infer_instance; infer_instance; (first | (with_reducible assumption) | omega | (focus (simp; done)) | (focus (simp; omega; done)) | decide); (exact rfl); (decide); (first | (with_reducible assumption) | omega | (focus (simp; done)) | (focus (simp; omega; done)) | decide))
        try simp only [Act.put, sA]; try simp only [sB, sC]
        refine' takeH (i := 3) (v := _) rfl (by kernel_rfl) (by kernel_rfl) (by kernel_rfl) (fun _ _ _ h => h) (yields_of (by rfl) (fun w' _ => ?_)) inferInstance ?_
        rotate_left
        · ((with_reducible apply (ev_fieldE (t := 42))); (exact Tryz.underlying42); (exact rfl); (kernel_rfl); (exact rfl); infer_instance; (exact cells_pos (by decide) (by omega)))
        try simp only [Act.put, sA]; try simp only [sB, sC]
        refine' takeH (i := 4) (v := _) rfl (by kernel_rfl) (by kernel_rfl) (by kernel_rfl) (fun _ _ _ h => h) (yields_of (by rfl) (fun w' _ => ?_)) inferInstance ?_
        rotate_left
        · ((with_reducible apply (ev_loadF (α := TargetR) (k := k) (j := 0) (s := 37))); infer_instance; (exact rfl); infer_instance; (exact rfl); (exact hkl); (exact tgc_0 _))
        try simp only [Act.put, sA]; try simp only [sB, sC]
        refine' takeH (i := 5) (v := _) rfl (by kernel_rfl) (by kernel_rfl) (by kernel_rfl) (fun _ _ _ h => h) (yields_of (by rfl) (fun w' _ => ?_)) inferInstance ?_
        rotate_left
        · (go_simp; try with_reducible rfl)
        try simp only [Act.put, sA]; try simp only [sB, sC]
        refine' takeH (i := 6) (v := _) rfl (by kernel_rfl) (by kernel_rfl) (by kernel_rfl) (fun _ _ _ h => h) (yields_of (by rfl) (fun w' _ => ?_)) inferInstance ?_
        rotate_left
        · (go_simp; try with_reducible rfl)
        try simp only [Act.put, sA]; try simp only [sB, sC]
        refine' takeH (i := 7) (v := _) rfl (by kernel_rfl) (by kernel_rfl) (by kernel_rfl) (fun _ _ _ h => h) (yields_of (by rfl) (fun w' _ => ?_)) inferInstance ?_
        rotate_left
        · (go_simp; try with_reducible rfl)
        try simp only [Act.put, sA]; try simp only [sB, sC]
        refine' takeH (i := 8) (v := _) rfl (by kernel_rfl) (by kernel_rfl) (by kernel_rfl) (fun _ _ _ h => h) (yields_of (by rfl) (fun w' _ => ?_)) inferInstance ?_
        rotate_left
        · ((with_reducible apply (ev_indexE (α := TargetR) (t := 40))); (exact rfl); (exact rfl); infer_instance; infer_instance; (first | (with_reducible assumption) | omega | (focus (simp; done)) | (focus (simp; omega; done)) | decide); (exact rfl); (decide); (first | (with_reducible assumption) | omega | (focus (simp; done)) | (focus (simp; omega; done)) | decide))
        try simp only [Act.put, sA]; try simp only [sB, sC]
        refine' takeH (i := 9) (v := _) rfl (by kernel_rfl) (by kernel_rfl) (by kernel_rfl) (fun _ _ _ h => h) (yields_of (by rfl) (fun w' _ => ?_)) inferInstance ?_
        rotate_left
        · ((with_reducible apply (ev_fieldE (t := 42))); (exact Tryz.underlying42); (exact rfl); (kernel_rfl); (exact rfl); infer_instance; (exact cells_pos (by decide) (by omega)))
        try simp only [Act.put, sA]; try simp only [sB, sC]
        refine' takeH (i := 10) (v := _) rfl (by kernel_rfl) (by kernel_rfl) (by kernel_rfl) (fun _ _ _ h => h) (yields_of (by rfl) (fun w' _ => ?_)) inferInstance ?_
        rotate_left
        · ((with_reducible apply (ev_loadF (α := TargetR) (k := k) (j := 34) (s := 37))); infer_instance; (exact rfl); infer_instance; (exact rfl); (exact hkl); (exact tgc_34 _))
        try simp only [Act.put, sA]; try simp only [sB, sC]
        refine' takeH (i := 11) (v := _) rfl (by kernel_rfl) (by kernel_rfl) (by kernel_rfl) (fun _ _ _ h => h) (yields_of (by rfl) (fun w' _ => ?_)) inferInstance ?_
        rotate_left
        · (go_simp; try with_reducible rfl)
        try simp only [Act.put, sA]; try simp only [sB, sC]
        refine' takeH (i := 12) (v := _) rfl (by kernel_rfl) (by kernel_rfl) (by kernel_rfl) (fun _ _ _ h => h) (yields_of (by rfl) (fun w' _ => ?_)) inferInstance ?_
        rotate_left
        · (go_simp; try with_reducible rfl)
        try simp only [Act.put, sA]; try simp only [sB, sC]
        try simp only [HK1.out]
        try simp only [HDQ.out]
        try simp only [HDN.out]
        refine' takeH (i := 13) (v := _) rfl (by kernel_rfl) (by kernel_rfl) (by kernel_rfl) (fun _ _ _ h => h) (yields_of (by rfl) (fun w' _ => ?_)) inferInstance ?_
        rotate_left
        · (go_simp; try with_reducible rfl)
        try simp only [Act.put, sA]; try simp only [sB, sC]
        refine' takeH (i := 14) (v := _) rfl (by kernel_rfl) (by kernel_rfl) (by kernel_rfl) (fun _ _ _ h => h) (yields_of (by rfl) (fun w' _ => ?_)) inferInstance ?_
        rotate_left
        · (go_simp; try with_reducible rfl)
        try simp only [Act.put, sA]; try simp only [sB, sC]
        refine' takeH (i := 15) (v := _) rfl (by kernel_rfl) (by kernel_rfl) (by kernel_rfl) (fun _ _ _ h => h) (yields_of (by rfl) (fun w' _ => ?_)) inferInstance ?_
        rotate_left
        · ((with_reducible apply (ev_indexE (α := TargetR) (t := 40))); (exact rfl); (exact rfl); infer_instance; infer_instance; (first | (with_reducible assumption) | omega | (focus (simp; done)) | (focus (simp; omega; done)) | decide); (exact rfl); (decide); (first | (with_reducible assumption) | omega | (focus (simp; done)) | (focus (simp; omega; done)) | decide))
        try simp only [Act.put, sA]; try simp only [sB, sC]
        refine' takeH (i := 16) (v := _) rfl (by kernel_rfl) (by kernel_rfl) (by kernel_rfl) (fun _ _ _ h => h) (yields_of (by rfl) (fun w' _ => ?_)) inferInstance ?_
        rotate_left
        · ((with_reducible apply (ev_fieldE (t := 42))); (exact Tryz.underlying42); (exact rfl); (kernel_rfl); (exact rfl); infer_instance; (exact cells_pos (by decide) (by omega)))
        try simp only [Act.put, sA]; try simp only [sB, sC]
        refine' takeH (i := 17) (v := _) rfl (by kernel_rfl) (by kernel_rfl) (by kernel_rfl) (fun _ _ _ h => h) (yields_of (by rfl) (fun w' _ => ?_)) inferInstance ?_
        rotate_left
        · ((with_reducible apply (ev_loadF (α := TargetR) (k := k) (j := 36) (s := 37))); infer_instance; (exact rfl); infer_instance; (exact rfl); (exact hkl); (exact tgc_36 _))
        try simp only [Act.put, sA]; try simp only [sB, sC]
        refine' takeH (i := 18) (v := _) rfl (by kernel_rfl) (by kernel_rfl) (by kernel_rfl) (fun _ _ _ h => h) (yields_of (by rfl) (fun w' _ => ?_)) inferInstance ?_
        rotate_left
        · (go_simp; try with_reducible rfl)
        try simp only [Act.put, sA]; try simp only [sB, sC]
        refine' takeH (i := 19) (v := _) rfl (by kernel_rfl) (by kernel_rfl) (by kernel_rfl) (fun _ _ _ h => h) (yields_of (by rfl) (fun w' _ => ?_)) inferInstance ?_
        rotate_left
        · (go_simp; try with_reducible rfl)
        try simp only [Act.put, sA]; try simp only [sB, sC]
        try simp only [HK1.out]
        try simp only [HDQ.out]
        try simp only [HDN.out]
        refine' takeH (i := 20) (v := _) rfl (by kernel_rfl) (by kernel_rfl) (by kernel_rfl) (fun _ _ _ h => h) (yields_of (by rfl) (fun w' _ => ?_)) inferInstance ?_
        rotate_left
        · (go_simp; try with_reducible rfl)
        try simp only [Act.put, sA]; try simp only [sB, sC]
        try simp only [HK1.out]
        try simp only [HDQ.out]
        try simp only [HDN.out]
        refine wpAnyH_done (by kernel_rfl) ?_ _
        go_wp2_with fail
        go_ret
        exact ⟨rfl, (stepN (w0 := w)).chg⟩
      · go_wp2_with fail
        refine wp_region_N (nowhere) (by kernel_rfl) (fun wd _ _ => ?_)
        refine' takeH (i := 0) (v := _) rfl (by kernel_rfl) (by kernel_rfl) (by kernel_rfl) (fun _ _ _ h => h) (yields_of (by rfl) (fun w' _ => ?_)) inferInstance ?_
        rotate_left
        · (go_simp; try with_reducible rfl)
        try simp only [Act.put, sA]; try simp only [sB, sC]
        refine' takeH (i := 1) (v := _) rfl (by kernel_rfl) (by kernel_rfl) (by kernel_rfl) (fun _ _ _ h => h) (yields_of (by rfl) (fun w' _ => ?_)) inferInstance ?_
        rotate_left
        · (go_simp; try with_reducible rfl)
        try simp only [Act.put, sA]; try simp only [sB, sC]
        refine' takeH (i := 2) (v := _) rfl (by kernel_rfl) (by kernel_rfl) (by kernel_rfl) (fun _ _ _ h => h) (yields_of (by rfl) (fun w' _ => ?_)) inferInstance ?_
        rotate_left
        · ((with_reducible apply (ev_indexE (α := TargetR) (t := 40))); (exact rfl); (exact rfl); infer_instance; infer_instance; (first | (with_reducible assumption) | omega | (focus (simp; done)) | (focus (simp; omega; done)) | decide); (exact rfl); (decide); (first | (with_reducible assumption) | omega | (focus (simp; done)) | (focus (simp; omega; done)) | decide))
        try simp only [Act.put, sA]; try simp only [sB, sC]
        refine' takeH (i := 3) (v := _) rfl (by kernel_rfl) (by kernel_rfl) (by kernel_rfl) (fun _ _ _ h => h) (yields_of (by rfl) (fun w' _ => ?_)) inferInstance ?_
        rotate_left
        · ((with_reducible apply (ev_fieldE (t := 42))); (exact Tryz.underlying42); (exact rfl); (kernel_rfl); (exact rfl); infer_instance; (exact cells_pos (by decide) (by omega)))
        try simp only [Act.put, sA]; try simp only [sB, sC]
        refine' takeH (i := 4) (v := _) rfl (by kernel_rfl) (by kernel_rfl) (by kernel_rfl) (fun _ _ _ h => h) (yields_of (by rfl) (fun w' _ => ?_)) inferInstance ?_
        rotate_left
        · ((with_reducible apply (ev_loadF (α := TargetR) (k := k) (j := 0) (s := 37))); infer_instance; (exact rfl); infer_instance; (exact rfl); (exact hkl); (exact tgc_0 _))
        try simp only [Act.put, sA]; try simp only [sB, sC]
        refine' takeH (i := 5) (v := _) rfl (by kernel_rfl) (by kernel_rfl) (by kernel_rfl) (fun _ _ _ h => h) (yields_of (by rfl) (fun w' _ => ?_)) inferInstance ?_
        rotate_left
        · (go_simp; try with_reducible rfl)
        try simp only [Act.put, sA]; try simp only [sB, sC]
        refine' takeH (i := 6) (v := _) rfl (by kernel_rfl) (by kernel_rfl) (by kernel_rfl) (fun _ _ _ h => h) (yields_of (by rfl) (fun w' _ => ?_)) inferInstance ?_
        rotate_left
        · (go_simp; try with_reducible rfl)
        try simp only [Act.put, sA]; try simp only [sB, sC]
        refine' takeH (i := 7) (v := _) rfl (by kernel_rfl) (by kernel_rfl) (by kernel_rfl) (fun _ _ _ h => h) (yields_of (by rfl) (fun w' _ => ?_)) inferInstance ?_
        rotate_left
        · (go_simp; try with_reducible rfl)
        try simp only [Act.put, sA]; try simp only [sB, sC]
        refine' takeH (i := 8) (v := _) rfl (by kernel_rfl) (by kernel_rfl) (by kernel_rfl) (fun _ _ _ h => h) (yields_of (by rfl) (fun w' _ => ?_)) inferInstance ?_
        rotate_left
        · ((with_reducible apply (ev_indexE (α := TargetR) (t := 40))); (exact rfl); (exact rfl); infer_instance; infer_instance; (first | (with_reducible assumption) | omega | (focus (simp; done)) | (focus (simp; omega; done)) | decide); (exact rfl); (decide); (first | (with_reducible assumption) | omega | (focus (simp; done)) | (focus (simp; omega; done)) | decide))
        try simp only [Act.put, sA]; try simp only [sB, sC]
        refine' takeH (i := 9) (v := _) rfl (by kernel_rfl) (by kernel_rfl) (by kernel_rfl) (fun _ _ _ h => h) (yields_of (by rfl) (fun w' _ => ?_)) inferInstance ?_
        rotate_left
        · ((with_reducible apply (ev_fieldE (t := 42))); (exact Tryz.underlying42); (exact rfl); (kernel_rfl); (exact rfl); infer_instance; (exact cells_pos (by decide) (by omega)))
        try simp only [Act.put, sA]; try simp only [sB, sC]
        refine' takeH (i := 10) (v := _) rfl (by kernel_rfl) (by kernel_rfl) (by kernel_rfl) (fun _ _ _ h => h) (yields_of (by rfl) (fun w' _ => ?_)) inferInstance ?_
        rotate_left
        · ((with_reducible apply (ev_loadF (α := TargetR) (k := k) (j := 34) (s := 37))); infer_instance; (exact rfl); infer_instance; (exact rfl); (exact hkl); (exact tgc_34 _))
        try simp only [Act.put, sA]; try simp only [sB, sC]
        refine' takeH (i := 11) (v := _) rfl (by kernel_rfl) (by kernel_rfl) (by kernel_rfl) (fun _ _ _ h => h) (yields_of (by rfl) (fun w' _ => ?_)) inferInstance ?_
        rotate_left
        · (go_simp; try with_reducible rfl)
        try simp only [Act.put, sA]; try simp only [sB, sC]
        refine' takeH (i := 12) (v := _) rfl (by kernel_rfl) (by kernel_rfl) (by kernel_rfl) (fun _ _ _ h => h) (yields_of (by rfl) (fun w' _ => ?_)) inferInstance ?_
        rotate_left
        · (go_simp; try with_reducible rfl)
        try simp only [Act.put, sA]; try simp only [sB, sC]
        try simp only [HK1.out]
        try simp only [HDQ.out]
        try simp only [HDN.out]
        refine' takeH (i := 13) (v := _) rfl (by kernel_rfl) (by kernel_rfl) (by kernel_rfl) (fun _ _ _ h => h) (yields_of (by rfl) (fun w' _ => ?_)) inferInstance ?_
        rotate_left
        · (go_simp; try with_reducible rfl)
        try simp only [Act.put, sA]; try simp only [sB, sC]
        refine' takeH (i := 14) (v := _) rfl (by kernel_rfl) (by kernel_rfl) (by kernel_rfl) (fun _ _ _ h => h) (yields_of (by rfl) (fun w' _ => ?_)) inferInstance ?_
        rotate_left
        · (go_simp; try with_reducible rfl)
        try simp only [Act.put, sA]; try simp only [sB, sC]
        refine' takeH (i := 15) (v := _) rfl (by kernel_rfl) (by kernel_rfl) (by kernel_rfl) (fun _ _ _ h => h) (yields_of (by rfl) (fun w' _ => ?_)) inferInstance ?_
        rotate_left
        · ((with_reducible apply (ev_indexE (α := TargetR) (t := 40))); (exact rfl); (exact rfl); infer_instance; infer_instance; (first | (with_reducible assumption) | omega | (focus (simp; done)) | (focus (simp; omega; done)) | decide); (exact rfl); (decide); (first | (with_reducible assumption) | omega | (focus (simp; done)) | (focus (simp; omega; done)) | decide))
        try simp only [Act.put, sA]; try simp only [sB, sC]
        refine' takeH (i := 16) (v := _) rfl (by kernel_rfl) (by kernel_rfl) (by kernel_rfl) (fun _ _ _ h => h) (yields_of (by rfl) (fun w' _ => ?_)) inferInstance ?_
        rotate_left
        · ((with_reducible apply (ev_fieldE (t := 42))); (exact Tryz.underlying42); (exact rfl); (kernel_rfl); (exact rfl); infer_instance; (exact cells_pos (by decide) (by omega)))
        try simp only [Act.put, sA]; try simp only [sB, sC]
        refine' takeH (i := 17) (v := _) rfl (by kernel_rfl) (by kernel_rfl) (by kernel_rfl) (fun _ _ _ h => h) (yields_of (by rfl) (fun w' _ => ?_)) inferInstance ?_
        rotate_left
        · ((with_reducible apply (ev_loadF (α := TargetR) (k := k) (j := 36) (s := 37))); infer_instance; (exact rfl); infer_instance; (exact rfl); (exact hkl); (exact tgc_36 _))
        try simp only [Act.put, sA]; try simp only [sB, sC]
        refine' takeH (i := 18) (v := _) rfl (by kernel_rfl) (by kernel_rfl) (by kernel_rfl) (fun _ _ _ h => h) (yields_of (by rfl) (fun w' _ => ?_)) inferInstance ?_
        rotate_left
        · (go_simp; try with_reducible rfl)
        try simp only [Act.put, sA]; try simp only [sB, sC]
        refine' takeH (i := 19) (v := _) rfl (by kernel_rfl) (by kernel_rfl) (by kernel_rfl) (fun _ _ _ h => h) (yields_of (by rfl) (fun w' _ => ?_)) inferInstance ?_
        rotate_left
        · (go_simp; try with_reducible rfl)
        try simp only [Act.put, sA]; try simp only [sB, sC]
        try simp only [HK1.out]
        try simp only [HDQ.out]
        try simp only [HDN.out]
        refine' takeH (i := 20) (v := _) rfl (by kernel_rfl) (by kernel_rfl) (by kernel_rfl) (fun _ _ _ h => h) (yields_of (by rfl) (fun w' _ => ?_)) inferInstance ?_
        rotate_left
        · (go_simp; try with_reducible rfl)
        try simp only [Act.put, sA]; try simp only [sB, sC]
        try simp only [HK1.out]
        try simp only [HDQ.out]
        try simp only [HDN.out]
        refine wpAnyH_done (by kernel_rfl) ?_ _
        go_wp2_with fail
        exact ⟨⟨k + 1, by omega, by go_num, stepN⟩, by simp [intOf]; omega⟩
    · have hltI : ¬ (k : Int) < n := by omega
      go_wp2_with (first | ((with_reducible apply wpl_build); (exact run_hB2 _)))
      refine (newS_calls hR2 _).mono ?_
      rintro e w1 ⟨zr, rfl, st1, hN1⟩
      have nw1 : Nw w w1 := ⟨nr.out.trans st1.chg (fun _ _ h => h)⟩
      have HI1 : Hid (LstI w w1 zr) := by
        obtain ⟨z0, z1, R, hlo⟩ := hN1
        have hle : w.heap.size ≤ wr.heap.size := st.chg.size
        exact Lib.hid ⟨_, R, TOk.nil, fun x h => by
          rcases h with h | h
          · exact Nat.le_trans hle (hlo x h)
          · exact h.elim⟩
      clear hN1 nr hrw st1
      go_wp2_with fail
      go_loopw [5] (fun iv wr => ∃ j : Nat, j ≤ n ∧ iv = .int .i64 (j : Int) ∧ Nw w wr ∧ Hid (LstI w wr zr)) (fun iv _ => n - (intOf iv).toNat)
      case atStart => exact ⟨0, Nat.zero_le _, rfl, nw1, HI1⟩
      case round =>
        clear nw1 HI1
        obtain ⟨j, hj, rfl, nwj, HI⟩ := hrel
        obtain ⟨s, R, hT, hlo⟩ := HI.out
        by_cases hjl : j < n
        · have hjI : (j : Int) < n := by omega
          have hjp : j < P.length := by omega
          have hrj : HR wr A (cellsOf P) := ⟨HRR.out.later nwj.out⟩
          have hszt : (RowC.enc (gt P j)).toArray.size = 37 := tgR_len _
          have hont := enc_one (gt P j)
          have hT2 := pubT_ok hT (gt P j)
          have hth := pub_there hT (gt P j)
          have hC := publishS_calls R (gt P j) hT.rise (by have := hT.len; omega)
          obtain ⟨T', hT'⟩ : ∃ T', T' = pubT s.T (gt P j) := ⟨_, rfl⟩
          obtain ⟨E, hE⟩ : ∃ E, E = pubE s.T (gt P j) := ⟨_, rfl⟩
          rw [← hT'] at hT2
          rw [← hE, ← hT'] at hth hC
          clear hT' hE
          go_wp2_with (first | ((with_reducible apply (wpl_indexE (α := TargetR) (t := 40))); (exact rfl); (exact rfl); infer_instance; infer_instance; (first | (with_reducible assumption) | omega | (focus (simp; done)) | (focus (simp; omega; done)) | decide); (exact rfl); (decide); (first | (with_reducible assumption) | omega | (focus (simp; done)) | (focus (simp; omega; done)) | decide)) | ((with_reducible apply (wpl_loadE (α := TargetR) (t := 42))); infer_instance; (exact rfl); infer_instance; (exact rfl); (decide); (first | (with_reducible assumption) | omega | (focus (simp; done)) | (focus (simp; omega; done)) | decide)))
          refine hC.mono ?_
          rintro e w2 ⟨rfl, B', d', hN⟩
          obtain ⟨s', hs', hsT⟩ : ∃ s' : RpS, s' = { s with B := B', d := d', T := T' } ∧ s'.T = T' := ⟨_, rfl, rfl⟩
          rw [← hs'] at hN
          clear hs' hC
          have R2 := hN.at'
          have hlo2 : ∀ x, rpO zr s' x ∨ s'.O x → w.heap.size ≤ x := fun x h => by
            rcases hN.fr x h with h1 | h1
            · exact hlo x h1
            · exact Nat.le_trans nwj.out.size h1
          have nw2 : Nw w w2 := ⟨nwj.out.trans hN.st (fun x hx h => by have := hlo x (.inl h); omega)⟩
          have HI2 : Hid (LstI w w2 zr) := Lib.hid ⟨s', R2, by rw [hsT]; exact hT2, hlo2⟩
          have hC2 := targetsS_calls R2 (by rw [hsT]; have := hT2.len; omega)
          rw [hsT] at hC2
          have HT2 := Lib.hid hT2
          have HTH := Lib.hid hth
          have hTl := hT2.len
          clear hN hlo2 R2 hT2 hth R hT hlo nwj hrj hsT HI
          go_wp2_with fail
          refine hC2.mono ?_
          rintro e w3 ⟨A3, c3, rfl, st3, hr3, _⟩
          clear hC2
          have HI3 : Hid (LstI w w3 zr) := by
            obtain ⟨s2, R2, h1, h2⟩ := HI2.out
            exact Lib.hid ⟨s2, R2.nw st3.chg, h1, h2⟩
          have nw3 : Nw w w3 := ⟨nw2.out.trans st3.chg (fun _ _ h => h)⟩
          have HR3 := Lib.hid hr3.out
          have hT9 : T'.length ≤ 9223372036854775807 := by omega
          clear HI2 nw2 hr3
          go_wp2_with fail
          go_loopw [8, 9] (fun tv kv wq => ∃ q : Nat, q ≤ T'.length ∧ kv = .int .i64 (q : Int) ∧ tv = .bool (thB T' (gt P j) q) ∧ Step nowhere w3 wq) (fun _ kv _ => T'.length - (intOf kv).toNat)
          case atStart => exact ⟨0, Nat.zero_le _, rfl, rfl, stepN⟩
          case round =>
            obtain ⟨q, hq, rfl, rfl, stq⟩ := hrel
            have nwq : Nw w wr := ⟨nw3.out.trans stq.chg (fun _ _ h => h)⟩
            have hrt : HR wr A3 (cellsOf T') := ⟨HR3.out.later stq.chg⟩
            have hrp : HR wr A (cellsOf P) := ⟨HRR.out.later nwq.out⟩
            clear st3
            by_cases hql : q < T'.length
            · have hqI : (q : Int) < (T'.length : Int) := by omega
              have heq : ∀ w, (binOp .eql 42 (.agg (RowC.enc (gt T' q)).toArray) (.agg (RowC.enc (gt P j)).toArray)).run Tryz.prog w = .ok (.bool (tgBe (gt T' q) (gt P j))) w := fun w => eql_of_neqR (neqTarget _ _ w)
              have hszq : (RowC.enc (gt T' q)).toArray.size = 37 := tgR_len _
              have honq := enc_one (gt T' q)
              cases hb : thB T' (gt P j) q
              case true =>
                have HB1 : Hid (thB T' (gt P j) (q + 1) = true) := Lib.hid (by rw [thB, hb]; rfl)
                clear hb
                go_wp2_with fail
                refine wp_region_N (nowhere) (by kernel_rfl) (fun wd _ _ => ?_)
                refine' takeH (i := 0) (v := _) rfl (by kernel_rfl) (by kernel_rfl) (by kernel_rfl) (fun _ _ _ h => h) (yields_of (by rfl) (fun w' _ => ?_)) inferInstance ?_
                rotate_left
                · (go_simp; try with_reducible rfl)
                try simp only [Act.put, sA]; try simp only [sB, sC]
                refine' takeH (i := 1) (v := _) rfl (by kernel_rfl) (by kernel_rfl) (by kernel_rfl) (fun _ _ _ h => h) (yields_of (by rfl) (fun w' _ => ?_)) inferInstance ?_
                rotate_left
                · (go_simp; try with_reducible rfl)
                try simp only [Act.put, sA]; try simp only [sB, sC]
                refine takeH (i := 2) (v := undef) rfl (by kernel_rfl) (by kernel_rfl) (by kernel_rfl) (fun _ _ _ h => h) (Or.inr ⟨by rfl, rfl⟩) inferInstance ?_
                try simp only [Act.put, sA]; try simp only [sB, sC]
                refine takeH (i := 3) (v := undef) rfl (by kernel_rfl) (by kernel_rfl) (by kernel_rfl) (fun _ _ _ h => h) (Or.inr ⟨by rfl, rfl⟩) inferInstance ?_
                try simp only [Act.put, sA]; try simp only [sB, sC]
                refine takeH (i := 4) (v := undef) rfl (by kernel_rfl) (by kernel_rfl) (by kernel_rfl) (fun _ _ _ h => h) (Or.inr ⟨by rfl, rfl⟩) inferInstance ?_
                try simp only [Act.put, sA]; try simp only [sB, sC]
                refine takeH (i := 5) (v := undef) rfl (by kernel_rfl) (by kernel_rfl) (by kernel_rfl) (fun _ _ _ h => h) (Or.inr ⟨by rfl, rfl⟩) inferInstance ?_
                try simp only [Act.put, sA]; try simp only [sB, sC]
                refine takeH (i := 6) (v := undef) rfl (by kernel_rfl) (by kernel_rfl) (by kernel_rfl) (fun _ _ _ h => h) (Or.inr ⟨by rfl, rfl⟩) inferInstance ?_
                try simp only [Act.put, sA]; try simp only [sB, sC]
                refine takeH (i := 7) (v := undef) rfl (by kernel_rfl) (by kernel_rfl) (by kernel_rfl) (fun _ _ _ h => h) (Or.inr ⟨by rfl, rfl⟩) inferInstance ?_
                try simp only [Act.put, sA]; try simp only [sB, sC]
                refine takeH (i := 8) (v := undef) rfl (by kernel_rfl) (by kernel_rfl) (by kernel_rfl) (fun _ _ _ h => h) (Or.inr ⟨by rfl, rfl⟩) inferInstance ?_
                try simp only [Act.put, sA]; try simp only [sB, sC]
                refine takeH (i := 9) (v := undef) rfl (by kernel_rfl) (by kernel_rfl) (by kernel_rfl) (fun _ _ _ h => h) (Or.inr ⟨by rfl, rfl⟩) inferInstance ?_
                try simp only [Act.put, sA]; try simp only [sB, sC]
                refine takeH (i := 10) (v := undef) rfl (by kernel_rfl) (by kernel_rfl) (by kernel_rfl) (fun _ _ _ h => h) (Or.inr ⟨by rfl, rfl⟩) inferInstance ?_
                try simp only [Act.put, sA]; try simp only [sB, sC]
                try simp only [HK1.out]
                try simp only [HDQ.out]
                try simp only [HDN.out]
                refine' takeH (i := 11) (v := _) rfl (by kernel_rfl) (by kernel_rfl) (by kernel_rfl) (fun _ _ _ h => h) (yields_of (by rfl) (fun w' _ => ?_)) inferInstance ?_
                rotate_left
                · (go_simp; try with_reducible rfl)
                try simp only [Act.put, sA]; try simp only [sB, sC]
                refine' takeH (i := 12) (v := _) rfl (by kernel_rfl) (by kernel_rfl) (by kernel_rfl) (fun _ _ _ h => h) (yields_of (by rfl) (fun w' _ => ?_)) inferInstance ?_
                rotate_left
                · (go_simp; try with_reducible rfl)
                try simp only [Act.put, sA]; try simp only [sB, sC]
                refine wpAnyH_done (by kernel_rfl) ?_ _
                go_wp2_with fail
                have nqw : Nw w3 wr := ⟨stq.chg⟩
                by_cases hq0 : q = 0
                · have hq0I : ¬ 0 < (q : Int) := by omega
                  refine wp_region_N (nowhere) (by kernel_rfl) (fun wd _ _ => ?_)
                  refine' takeH (i := 0) (v := _) rfl (by kernel_rfl) (by kernel_rfl) (by kernel_rfl) (fun _ _ _ h => h) (yields_of (by rfl) (fun w' _ => ?_)) inferInstance ?_
                  rotate_left
                  · (go_simp; try with_reducible rfl)
                  try simp only [Act.put, sA]; try simp only [sB, sC]
                  refine' takeH (i := 1) (v := _) rfl (by kernel_rfl) (by kernel_rfl) (by kernel_rfl) (fun _ _ _ h => h) (yields_of (by rfl) (fun w' _ => ?_)) inferInstance ?_
                  rotate_left
                  · (go_simp; try with_reducible rfl)
                  try simp only [Act.put, sA]; try simp only [sB, sC]
                  try simp only [HK1.out]
                  try simp only [HDQ.out]
                  try simp only [HDN.out]
                  refine' takeH (i := 2) (v := _) rfl (by kernel_rfl) (by kernel_rfl) (by kernel_rfl) (fun _ _ _ h => h) (yields_of (by rfl) (fun w' _ => ?_)) inferInstance ?_
                  rotate_left
                  · (go_simp; try with_reducible rfl)
                  try simp only [Act.put, sA]; try simp only [sB, sC]
                  refine takeH (i := 3) (v := undef) rfl (by kernel_rfl) (by kernel_rfl) (by kernel_rfl) (fun _ _ _ h => h) (Or.inr ⟨by rfl, rfl⟩) inferInstance ?_
                  try simp only [Act.put, sA]; try simp only [sB, sC]
                  refine takeH (i := 4) (v := undef) rfl (by kernel_rfl) (by kernel_rfl) (by kernel_rfl) (fun _ _ _ h => h) (Or.inr ⟨by rfl, rfl⟩) inferInstance ?_
                  try simp only [Act.put, sA]; try simp only [sB, sC]
                  refine takeH (i := 5) (v := undef) rfl (by kernel_rfl) (by kernel_rfl) (by kernel_rfl) (fun _ _ _ h => h) (Or.inr ⟨by rfl, rfl⟩) inferInstance ?_
                  try simp only [Act.put, sA]; try simp only [sB, sC]
                  try simp only [HK1.out]
                  try simp only [HDQ.out]
                  try simp only [HDN.out]
                  refine takeH (i := 6) (v := undef) rfl (by kernel_rfl) (by kernel_rfl) (by kernel_rfl) (fun _ _ _ h => h) (Or.inr ⟨by rfl, rfl⟩) inferInstance ?_
                  try simp only [Act.put, sA]; try simp only [sB, sC]
                  refine takeH (i := 7) (v := undef) rfl (by kernel_rfl) (by kernel_rfl) (by kernel_rfl) (fun _ _ _ h => h) (Or.inr ⟨by rfl, rfl⟩) inferInstance ?_
                  try simp only [Act.put, sA]; try simp only [sB, sC]
                  refine takeH (i := 8) (v := undef) rfl (by kernel_rfl) (by kernel_rfl) (by kernel_rfl) (fun _ _ _ h => h) (Or.inr ⟨by rfl, rfl⟩) inferInstance ?_
                  try simp only [Act.put, sA]; try simp only [sB, sC]
                  refine takeH (i := 9) (v := undef) rfl (by kernel_rfl) (by kernel_rfl) (by kernel_rfl) (fun _ _ _ h => h) (Or.inr ⟨by rfl, rfl⟩) inferInstance ?_
                  try simp only [Act.put, sA]; try simp only [sB, sC]
                  refine takeH (i := 10) (v := undef) rfl (by kernel_rfl) (by kernel_rfl) (by kernel_rfl) (fun _ _ _ h => h) (Or.inr ⟨by rfl, rfl⟩) inferInstance ?_
                  try simp only [Act.put, sA]; try simp only [sB, sC]
                  refine takeH (i := 11) (v := undef) rfl (by kernel_rfl) (by kernel_rfl) (by kernel_rfl) (fun _ _ _ h => h) (Or.inr ⟨by rfl, rfl⟩) inferInstance ?_
                  try simp only [Act.put, sA]; try simp only [sB, sC]
                  refine takeH (i := 12) (v := undef) rfl (by kernel_rfl) (by kernel_rfl) (by kernel_rfl) (fun _ _ _ h => h) (Or.inr ⟨by rfl, rfl⟩) inferInstance ?_
                  try simp only [Act.put, sA]; try simp only [sB, sC]
                  refine takeH (i := 13) (v := undef) rfl (by kernel_rfl) (by kernel_rfl) (by kernel_rfl) (fun _ _ _ h => h) (Or.inr ⟨by rfl, rfl⟩) inferInstance ?_
                  try simp only [Act.put, sA]; try simp only [sB, sC]
                  refine' takeH (i := 14) (v := _) rfl (by kernel_rfl) (by kernel_rfl) (by kernel_rfl) (fun _ _ _ h => h) (yields_of (by rfl) (fun w' _ => ?_)) inferInstance ?_
                  rotate_left
                  · (go_simp; try with_reducible rfl)
                  try simp only [Act.put, sA]; try simp only [sB, sC]
                  refine wpAnyH_done (by kernel_rfl) ?_ _
                  go_wp2_with fail
                  exact ⟨⟨q + 1, by omega, by go_num, by rw [HB1.out], stepN⟩, by simp [intOf]; omega⟩
                · have hq0I : 0 < (q : Int) := by omega
                  have HLT : Hid (tgLt (gt T' (q - 1)) (gt T' q) = true) := Lib.hid (HT2.out.rise (q - 1) q (by omega) hql)
                  have HK1 : Hid (IntKind.i64.wrap ((q : Int) - 1) = ((q - 1 : Nat) : Int)) := Lib.hid (by rw [IntKind.wrap_i64]; omega)
                  have HDQ : Hid (decide (0 < (q : Int)) = true) := Lib.hid (decide_eq_true hq0I)
                  have HDN : Hid (decide (0 < q) = true) := Lib.hid (decide_eq_true (by omega))
                  have hq0N : 0 < q := by omega
                  have hq1l : q - 1 < T'.length := by omega
                  have hszr : (RowC.enc (gt T' (q - 1))).toArray.size = 37 := tgR_len _
                  have honr := enc_one (gt T' (q - 1))
                  refine wp_region_N (nowhere) (by kernel_rfl) (fun wd _ _ => ?_)
                  refine' takeH (i := 0) (v := _) rfl (by kernel_rfl) (by kernel_rfl) (by kernel_rfl) (fun _ _ _ h => h) (yields_of (by rfl) (fun w' _ => ?_)) inferInstance ?_
                  rotate_left
                  · (go_simp; try with_reducible rfl)
                  try simp only [Act.put, sA]; try simp only [sB, sC]
                  refine' takeH (i := 1) (v := _) rfl (by kernel_rfl) (by kernel_rfl) (by kernel_rfl) (fun _ _ _ h => h) (yields_of (by rfl) (fun w' _ => ?_)) inferInstance ?_
                  rotate_left
                  · (go_simp; try with_reducible rfl)
                  try simp only [Act.put, sA]; try simp only [sB, sC]
                  try simp only [HK1.out]
                  try simp only [HDQ.out]
                  try simp only [HDN.out]
                  refine' takeH (i := 2) (v := _) rfl (by kernel_rfl) (by kernel_rfl) (by kernel_rfl) (fun _ _ _ h => h) (yields_of (by rfl) (fun w' _ => ?_)) inferInstance ?_
                  rotate_left
                  · (go_simp; try with_reducible rfl)
                  try simp only [Act.put, sA]; try simp only [sB, sC]
                  refine' takeH (i := 3) (v := _) rfl (by kernel_rfl) (by kernel_rfl) (by kernel_rfl) (fun _ _ _ h => h) (yields_of (by rfl) (fun w' _ => ?_)) inferInstance ?_
                  rotate_left
                  · (go_simp; try with_reducible rfl)
                  try simp only [Act.put, sA]; try simp only [sB, sC]
                  refine' takeH (i := 4) (v := _) rfl (by kernel_rfl) (by kernel_rfl) (by kernel_rfl) (fun _ _ _ h => h) (yields_of (by rfl) (fun w' _ => ?_)) inferInstance ?_
                  rotate_left
                  · (go_simp; try with_reducible rfl)
                  try simp only [Act.put, sA]; try simp only [sB, sC]
                  refine' takeH (i := 5) (v := _) rfl (by kernel_rfl) (by kernel_rfl) (by kernel_rfl) (fun _ _ _ h => h) (yields_of (by rfl) (fun w' _ => ?_)) inferInstance ?_
                  rotate_left
                  · (go_simp; try with_reducible rfl)
                  try simp only [Act.put, sA]; try simp only [sB, sC]
                  try simp only [HK1.out]
                  try simp only [HDQ.out]
                  try simp only [HDN.out]
                  refine' takeH (i := 6) (v := _) rfl (by kernel_rfl) (by kernel_rfl) (by kernel_rfl) (fun _ _ _ h => h) (yields_of (by rfl) (fun w' _ => ?_)) inferInstance ?_
                  rotate_left
                  · ((with_reducible apply (ev_indexE (α := TargetR) (t := 40))); (exact rfl); (exact rfl); infer_instance; infer_instance; (first | (with_reducible assumption) | omega | (focus (simp; done)) | (focus (simp; omega; done)) | decide); (exact rfl); (decide); (first | (with_reducible assumption) | omega | (focus (simp; done)) | (focus (simp; omega; done)) | decide))
                  try simp only [Act.put, sA]; try simp only [sB, sC]
                  refine' takeH (i := 7) (v := _) rfl (by kernel_rfl) (by kernel_rfl) (by kernel_rfl) (fun _ _ _ h => h) (yields_of (by rfl) (fun w' _ => ?_)) inferInstance ?_
                  rotate_left
                  · ((with_reducible apply (ev_loadE (α := TargetR) (t := 42))); infer_instance; (exact rfl); infer_instance; (exact rfl); (decide); (first | (with_reducible assumption) | omega | (focus (simp; done)) | (focus (simp; omega; done)) | decide))
                  try simp only [Act.put, sA]; try simp only [sB, sC]
                  refine' takeH (i := 8) (v := _) rfl (by kernel_rfl) (by kernel_rfl) (by kernel_rfl) (fun _ _ _ h => h) (yields_of (by rfl) (fun w' _ => ?_)) inferInstance ?_
                  rotate_left
                  · (go_simp; try with_reducible rfl)
                  try simp only [Act.put, sA]; try simp only [sB, sC]
                  refine' takeH (i := 9) (v := _) rfl (by kernel_rfl) (by kernel_rfl) (by kernel_rfl) (fun _ _ _ h => h) (yields_of (by rfl) (fun w' _ => ?_)) inferInstance ?_
                  rotate_left
                  · (go_simp; try with_reducible rfl)
                  try simp only [Act.put, sA]; try simp only [sB, sC]
                  refine' takeH (i := 10) (v := _) rfl (by kernel_rfl) (by kernel_rfl) (by kernel_rfl) (fun _ _ _ h => h) (yields_of (by rfl) (fun w' _ => ?_)) inferInstance ?_
                  rotate_left
                  · ((with_reducible apply (ev_indexE (α := TargetR) (t := 40))); (exact rfl); (exact rfl); infer_instance; infer_instance; (first | (with_reducible assumption) | omega | (focus (simp; done)) | (focus (simp; omega; done)) | decide); (exact rfl); (decide); (first | (with_reducible assumption) | omega | (focus (simp; done)) | (focus (simp; omega; done)) | decide))
                  try simp only [Act.put, sA]; try simp only [sB, sC]
                  refine' takeH (i := 11) (v := _) rfl (by kernel_rfl) (by kernel_rfl) (by kernel_rfl) (fun _ _ _ h => h) (yields_of (by rfl) (fun w' _ => ?_)) inferInstance ?_
                  rotate_left
                  · ((with_reducible apply (ev_loadE (α := TargetR) (t := 42))); infer_instance; (exact rfl); infer_instance; (exact rfl); (decide); (first | (with_reducible assumption) | omega | (focus (simp; done)) | (focus (simp; omega; done)) | decide))
                  try simp only [Act.put, sA]; try simp only [sB, sC]
                  refine goH (i := 12) (by kernel_rfl) rfl (fun K_ hK_ => ?_)
                  go_simp
                  refine (rBefore_calls (gt T' (q - 1)) (gt T' q) _).mono ?_
                  rw [HLT.out]
                  rintro e w5 ⟨rfl, st5⟩
                  refine hK_.out _ _ inferInstance (fun _ => ?_)
                  clear hK_ K_
                  try simp only [Act.put, sA]; try simp only [sB, sC]
                  refine' takeH (i := 13) (v := _) rfl (by kernel_rfl) (by kernel_rfl) (by kernel_rfl) (fun _ _ _ h => h) (yields_of (by rfl) (fun w' _ => ?_)) inferInstance ?_
                  rotate_left
                  · (go_simp; try with_reducible rfl)
                  try simp only [Act.put, sA]; try simp only [sB, sC]
                  refine' takeH (i := 14) (v := _) rfl (by kernel_rfl) (by kernel_rfl) (by kernel_rfl) (fun _ _ _ h => h) (yields_of (by rfl) (fun w' _ => ?_)) inferInstance ?_
                  rotate_left
                  · (go_simp; try with_reducible rfl)
                  try simp only [Act.put, sA]; try simp only [sB, sC]
                  refine wpAnyH_done (by kernel_rfl) ?_ _
                  go_wp2_with fail
                  exact ⟨⟨q + 1, by omega, by go_num, by rw [HB1.out], stepN⟩, by simp [intOf]; omega⟩
              case false =>
                have HB1 : Hid (thB T' (gt P j) (q + 1) = tgBe (gt T' q) (gt P j)) := Lib.hid (by rw [thB, hb]; rfl)
                clear hb
                go_wp2_with fail
                refine wp_region_N (nowhere) (by kernel_rfl) (fun wd _ _ => ?_)
                refine' takeH (i := 0) (v := _) rfl (by kernel_rfl) (by kernel_rfl) (by kernel_rfl) (fun _ _ _ h => h) (yields_of (by rfl) (fun w' _ => ?_)) inferInstance ?_
                rotate_left
                · (go_simp; try with_reducible rfl)
                try simp only [Act.put, sA]; try simp only [sB, sC]
                refine' takeH (i := 1) (v := _) rfl (by kernel_rfl) (by kernel_rfl) (by kernel_rfl) (fun _ _ _ h => h) (yields_of (by rfl) (fun w' _ => ?_)) inferInstance ?_
                rotate_left
                · (go_simp; try with_reducible rfl)
                try simp only [Act.put, sA]; try simp only [sB, sC]
                refine' takeH (i := 2) (v := _) rfl (by kernel_rfl) (by kernel_rfl) (by kernel_rfl) (fun _ _ _ h => h) (yields_of (by rfl) (fun w' _ => ?_)) inferInstance ?_
                rotate_left
                · (go_simp; try with_reducible rfl)
                try simp only [Act.put, sA]; try simp only [sB, sC]
                refine' takeH (i := 3) (v := _) rfl (by kernel_rfl) (by kernel_rfl) (by kernel_rfl) (fun _ _ _ h => h) (yields_of (by rfl) (fun w' _ => ?_)) inferInstance ?_
                rotate_left
                · (go_simp; try with_reducible rfl)
                try simp only [Act.put, sA]; try simp only [sB, sC]
                refine' takeH (i := 4) (v := _) rfl (by kernel_rfl) (by kernel_rfl) (by kernel_rfl) (fun _ _ _ h => h) (yields_of (by rfl) (fun w' _ => ?_)) inferInstance ?_
                rotate_left
                · ((with_reducible apply (ev_indexE (α := TargetR) (t := 40))); (exact rfl); (exact rfl); infer_instance; infer_instance; (first | (with_reducible assumption) | omega | (focus (simp; done)) | (focus (simp; omega; done)) | decide); (exact rfl); (decide); (first | (with_reducible assumption) | omega | (focus (simp; done)) | (focus (simp; omega; done)) | decide))
                try simp only [Act.put, sA]; try simp only [sB, sC]
                refine' takeH (i := 5) (v := _) rfl (by kernel_rfl) (by kernel_rfl) (by kernel_rfl) (fun _ _ _ h => h) (yields_of (by rfl) (fun w' _ => ?_)) inferInstance ?_
                rotate_left
                · ((with_reducible apply (ev_loadE (α := TargetR) (t := 42))); infer_instance; (exact rfl); infer_instance; (exact rfl); (decide); (first | (with_reducible assumption) | omega | (focus (simp; done)) | (focus (simp; omega; done)) | decide))
                try simp only [Act.put, sA]; try simp only [sB, sC]
                refine' takeH (i := 6) (v := _) rfl (by kernel_rfl) (by kernel_rfl) (by kernel_rfl) (fun _ _ _ h => h) (yields_of (by rfl) (fun w' _ => ?_)) inferInstance ?_
                rotate_left
                · (go_simp; try with_reducible rfl)
                try simp only [Act.put, sA]; try simp only [sB, sC]
                refine' takeH (i := 7) (v := _) rfl (by kernel_rfl) (by kernel_rfl) (by kernel_rfl) (fun _ _ _ h => h) (yields_of (by rfl) (fun w' _ => ?_)) inferInstance ?_
                rotate_left
                · (go_simp; try with_reducible rfl)
                try simp only [Act.put, sA]; try simp only [sB, sC]
                refine' takeH (i := 8) (v := _) rfl (by kernel_rfl) (by kernel_rfl) (by kernel_rfl) (fun _ _ _ h => h) (yields_of (by rfl) (fun w' _ => ?_)) inferInstance ?_
                rotate_left
                · ((with_reducible apply (ev_indexE (α := TargetR) (t := 40))); (exact rfl); (exact rfl); infer_instance; infer_instance; (first | (with_reducible assumption) | omega | (focus (simp; done)) | (focus (simp; omega; done)) | decide); (exact rfl); (decide); (first | (with_reducible assumption) | omega | (focus (simp; done)) | (focus (simp; omega; done)) | decide))
                try simp only [Act.put, sA]; try simp only [sB, sC]
                refine' takeH (i := 9) (v := _) rfl (by kernel_rfl) (by kernel_rfl) (by kernel_rfl) (fun _ _ _ h => h) (yields_of (by rfl) (fun w' _ => ?_)) inferInstance ?_
                rotate_left
                · ((with_reducible apply (ev_loadE (α := TargetR) (t := 42))); infer_instance; (exact rfl); infer_instance; (exact rfl); (decide); (first | (with_reducible assumption) | omega | (focus (simp; done)) | (focus (simp; omega; done)) | decide))
                try simp only [Act.put, sA]; try simp only [sB, sC]
                refine' takeH (i := 10) (v := _) rfl (by kernel_rfl) (by kernel_rfl) (by kernel_rfl) (fun _ _ _ h => h) (yields_of (by rfl) (fun w' _ => ?_)) inferInstance ?_
                rotate_left
                · (go_simp; try with_reducible rfl)
                try simp only [Act.put, sA]; try simp only [sB, sC]
                try simp only [HK1.out]
                try simp only [HDQ.out]
                try simp only [HDN.out]
                refine' takeH (i := 11) (v := _) rfl (by kernel_rfl) (by kernel_rfl) (by kernel_rfl) (fun _ _ _ h => h) (yields_of (by rfl) (fun w' _ => ?_)) inferInstance ?_
                rotate_left
                · (go_simp; try with_reducible rfl)
                try simp only [Act.put, sA]; try simp only [sB, sC]
                refine' takeH (i := 12) (v := _) rfl (by kernel_rfl) (by kernel_rfl) (by kernel_rfl) (fun _ _ _ h => h) (yields_of (by rfl) (fun w' _ => ?_)) inferInstance ?_
                rotate_left
                · (go_simp; try with_reducible rfl)
                try simp only [Act.put, sA]; try simp only [sB, sC]
                refine wpAnyH_done (by kernel_rfl) ?_ _
                go_wp2_with fail
                have nqw : Nw w3 wr := ⟨stq.chg⟩
                by_cases hq0 : q = 0
                · have hq0I : ¬ 0 < (q : Int) := by omega
                  refine wp_region_N (nowhere) (by kernel_rfl) (fun wd _ _ => ?_)
                  refine' takeH (i := 0) (v := _) rfl (by kernel_rfl) (by kernel_rfl) (by kernel_rfl) (fun _ _ _ h => h) (yields_of (by rfl) (fun w' _ => ?_)) inferInstance ?_
                  rotate_left
                  · (go_simp; try with_reducible rfl)
                  try simp only [Act.put, sA]; try simp only [sB, sC]
                  refine' takeH (i := 1) (v := _) rfl (by kernel_rfl) (by kernel_rfl) (by kernel_rfl) (fun _ _ _ h => h) (yields_of (by rfl) (fun w' _ => ?_)) inferInstance ?_
                  rotate_left
                  · (go_simp; try with_reducible rfl)
                  try simp only [Act.put, sA]; try simp only [sB, sC]
                  try simp only [HK1.out]
                  try simp only [HDQ.out]
                  try simp only [HDN.out]
                  refine' takeH (i := 2) (v := _) rfl (by kernel_rfl) (by kernel_rfl) (by kernel_rfl) (fun _ _ _ h => h) (yields_of (by rfl) (fun w' _ => ?_)) inferInstance ?_
                  rotate_left
                  · (go_simp; try with_reducible rfl)
                  try simp only [Act.put, sA]; try simp only [sB, sC]
                  refine takeH (i := 3) (v := undef) rfl (by kernel_rfl) (by kernel_rfl) (by kernel_rfl) (fun _ _ _ h => h) (Or.inr ⟨by rfl, rfl⟩) inferInstance ?_
                  try simp only [Act.put, sA]; try simp only [sB, sC]
                  refine takeH (i := 4) (v := undef) rfl (by kernel_rfl) (by kernel_rfl) (by kernel_rfl) (fun _ _ _ h => h) (Or.inr ⟨by rfl, rfl⟩) inferInstance ?_
                  try simp only [Act.put, sA]; try simp only [sB, sC]
                  refine takeH (i := 5) (v := undef) rfl (by kernel_rfl) (by kernel_rfl) (by kernel_rfl) (fun _ _ _ h => h) (Or.inr ⟨by rfl, rfl⟩) inferInstance ?_
                  try simp only [Act.put, sA]; try simp only [sB, sC]
                  try simp only [HK1.out]
                  try simp only [HDQ.out]
                  try simp only [HDN.out]
                  refine takeH (i := 6) (v := undef) rfl (by kernel_rfl) (by kernel_rfl) (by kernel_rfl) (fun _ _ _ h => h) (Or.inr ⟨by rfl, rfl⟩) inferInstance ?_
                  try simp only [Act.put, sA]; try simp only [sB, sC]
                  refine takeH (i := 7) (v := undef) rfl (by kernel_rfl) (by kernel_rfl) (by kernel_rfl) (fun _ _ _ h => h) (Or.inr ⟨by rfl, rfl⟩) inferInstance ?_
                  try simp only [Act.put, sA]; try simp only [sB, sC]
                  refine takeH (i := 8) (v := undef) rfl (by kernel_rfl) (by kernel_rfl) (by kernel_rfl) (fun _ _ _ h => h) (Or.inr ⟨by rfl, rfl⟩) inferInstance ?_
                  try simp only [Act.put, sA]; try simp only [sB, sC]
                  refine takeH (i := 9) (v := undef) rfl (by kernel_rfl) (by kernel_rfl) (by kernel_rfl) (fun _ _ _ h => h) (Or.inr ⟨by rfl, rfl⟩) inferInstance ?_
                  try simp only [Act.put, sA]; try simp only [sB, sC]
                  refine takeH (i := 10) (v := undef) rfl (by kernel_rfl) (by kernel_rfl) (by kernel_rfl) (fun _ _ _ h => h) (Or.inr ⟨by rfl, rfl⟩) inferInstance ?_
                  try simp only [Act.put, sA]; try simp only [sB, sC]
                  refine takeH (i := 11) (v := undef) rfl (by kernel_rfl) (by kernel_rfl) (by kernel_rfl) (fun _ _ _ h => h) (Or.inr ⟨by rfl, rfl⟩) inferInstance ?_
                  try simp only [Act.put, sA]; try simp only [sB, sC]
                  refine takeH (i := 12) (v := undef) rfl (by kernel_rfl) (by kernel_rfl) (by kernel_rfl) (fun _ _ _ h => h) (Or.inr ⟨by rfl, rfl⟩) inferInstance ?_
                  try simp only [Act.put, sA]; try simp only [sB, sC]
                  refine takeH (i := 13) (v := undef) rfl (by kernel_rfl) (by kernel_rfl) (by kernel_rfl) (fun _ _ _ h => h) (Or.inr ⟨by rfl, rfl⟩) inferInstance ?_
                  try simp only [Act.put, sA]; try simp only [sB, sC]
                  refine' takeH (i := 14) (v := _) rfl (by kernel_rfl) (by kernel_rfl) (by kernel_rfl) (fun _ _ _ h => h) (yields_of (by rfl) (fun w' _ => ?_)) inferInstance ?_
                  rotate_left
                  · (go_simp; try with_reducible rfl)
                  try simp only [Act.put, sA]; try simp only [sB, sC]
                  refine wpAnyH_done (by kernel_rfl) ?_ _
                  go_wp2_with fail
                  exact ⟨⟨q + 1, by omega, by go_num, by rw [HB1.out], stepN⟩, by simp [intOf]; omega⟩
                · have hq0I : 0 < (q : Int) := by omega
                  have HLT : Hid (tgLt (gt T' (q - 1)) (gt T' q) = true) := Lib.hid (HT2.out.rise (q - 1) q (by omega) hql)
                  have HK1 : Hid (IntKind.i64.wrap ((q : Int) - 1) = ((q - 1 : Nat) : Int)) := Lib.hid (by rw [IntKind.wrap_i64]; omega)
                  have HDQ : Hid (decide (0 < (q : Int)) = true) := Lib.hid (decide_eq_true hq0I)
                  have HDN : Hid (decide (0 < q) = true) := Lib.hid (decide_eq_true (by omega))
                  have hq0N : 0 < q := by omega
                  have hq1l : q - 1 < T'.length := by omega
                  have hszr : (RowC.enc (gt T' (q - 1))).toArray.size = 37 := tgR_len _
                  have honr := enc_one (gt T' (q - 1))
                  refine wp_region_N (nowhere) (by kernel_rfl) (fun wd _ _ => ?_)
                  refine' takeH (i := 0) (v := _) rfl (by kernel_rfl) (by kernel_rfl) (by kernel_rfl) (fun _ _ _ h => h) (yields_of (by rfl) (fun w' _ => ?_)) inferInstance ?_
                  rotate_left
                  · (go_simp; try with_reducible rfl)
                  try simp only [Act.put, sA]; try simp only [sB, sC]
                  refine' takeH (i := 1) (v := _) rfl (by kernel_rfl) (by kernel_rfl) (by kernel_rfl) (fun _ _ _ h => h) (yields_of (by rfl) (fun w' _ => ?_)) inferInstance ?_
                  rotate_left
                  · (go_simp; try with_reducible rfl)
                  try simp only [Act.put, sA]; try simp only [sB, sC]
                  try simp only [HK1.out]
                  try simp only [HDQ.out]
                  try simp only [HDN.out]
                  refine' takeH (i := 2) (v := _) rfl (by kernel_rfl) (by kernel_rfl) (by kernel_rfl) (fun _ _ _ h => h) (yields_of (by rfl) (fun w' _ => ?_)) inferInstance ?_
                  rotate_left
                  · (go_simp; try with_reducible rfl)
                  try simp only [Act.put, sA]; try simp only [sB, sC]
                  refine' takeH (i := 3) (v := _) rfl (by kernel_rfl) (by kernel_rfl) (by kernel_rfl) (fun _ _ _ h => h) (yields_of (by rfl) (fun w' _ => ?_)) inferInstance ?_
                  rotate_left
                  · (go_simp; try with_reducible rfl)
                  try simp only [Act.put, sA]; try simp only [sB, sC]
                  refine' takeH (i := 4) (v := _) rfl (by kernel_rfl) (by kernel_rfl) (by kernel_rfl) (fun _ _ _ h => h) (yields_of (by rfl) (fun w' _ => ?_)) inferInstance ?_
                  rotate_left
                  · (go_simp; try with_reducible rfl)
                  try simp only [Act.put, sA]; try simp only [sB, sC]
                  refine' takeH (i := 5) (v := _) rfl (by kernel_rfl) (by kernel_rfl) (by kernel_rfl) (fun _ _ _ h => h) (yields_of (by rfl) (fun w' _ => ?_)) inferInstance ?_
                  rotate_left
                  · (go_simp; try with_reducible rfl)
                  try simp only [Act.put, sA]; try simp only [sB, sC]
                  try simp only [HK1.out]
                  try simp only [HDQ.out]
                  try simp only [HDN.out]
                  refine' takeH (i := 6) (v := _) rfl (by kernel_rfl) (by kernel_rfl) (by kernel_rfl) (fun _ _ _ h => h) (yields_of (by rfl) (fun w' _ => ?_)) inferInstance ?_
                  rotate_left
                  · ((with_reducible apply (ev_indexE (α := TargetR) (t := 40))); (exact rfl); (exact rfl); infer_instance; infer_instance; (first | (with_reducible assumption) | omega | (focus (simp; done)) | (focus (simp; omega; done)) | decide); (exact rfl); (decide); (first | (with_reducible assumption) | omega | (focus (simp; done)) | (focus (simp; omega; done)) | decide))
                  try simp only [Act.put, sA]; try simp only [sB, sC]
                  refine' takeH (i := 7) (v := _) rfl (by kernel_rfl) (by kernel_rfl) (by kernel_rfl) (fun _ _ _ h => h) (yields_of (by rfl) (fun w' _ => ?_)) inferInstance ?_
                  rotate_left
                  · ((with_reducible apply (ev_loadE (α := TargetR) (t := 42))); infer_instance; (exact rfl); infer_instance; (exact rfl); (decide); (first | (with_reducible assumption) | omega | (focus (simp; done)) | (focus (simp; omega; done)) | decide))
                  try simp only [Act.put, sA]; try simp only [sB, sC]
                  refine' takeH (i := 8) (v := _) rfl (by kernel_rfl) (by kernel_rfl) (by kernel_rfl) (fun _ _ _ h => h) (yields_of (by rfl) (fun w' _ => ?_)) inferInstance ?_
                  rotate_left
                  · (go_simp; try with_reducible rfl)
                  try simp only [Act.put, sA]; try simp only [sB, sC]
                  refine' takeH (i := 9) (v := _) rfl (by kernel_rfl) (by kernel_rfl) (by kernel_rfl) (fun _ _ _ h => h) (yields_of (by rfl) (fun w' _ => ?_)) inferInstance ?_
                  rotate_left
                  · (go_simp; try with_reducible rfl)
                  try simp only [Act.put, sA]; try simp only [sB, sC]
                  refine' takeH (i := 10) (v := _) rfl (by kernel_rfl) (by kernel_rfl) (by kernel_rfl) (fun _ _ _ h => h) (yields_of (by rfl) (fun w' _ => ?_)) inferInstance ?_
                  rotate_left
                  · ((with_reducible apply (ev_indexE (α := TargetR) (t := 40))); (exact rfl); (exact rfl); infer_instance; infer_instance; (first | (with_reducible assumption) | omega | (focus (simp; done)) | (focus (simp; omega; done)) | decide); (exact rfl); (decide); (first | (with_reducible assumption) | omega | (focus (simp; done)) | (focus (simp; omega; done)) | decide))
                  try simp only [Act.put, sA]; try simp only [sB, sC]
                  refine' takeH (i := 11) (v := _) rfl (by kernel_rfl) (by kernel_rfl) (by kernel_rfl) (fun _ _ _ h => h) (yields_of (by rfl) (fun w' _ => ?_)) inferInstance ?_
                  rotate_left
                  · ((with_reducible apply (ev_loadE (α := TargetR) (t := 42))); infer_instance; (exact rfl); infer_instance; (exact rfl); (decide); (first | (with_reducible assumption) | omega | (focus (simp; done)) | (focus (simp; omega; done)) | decide))
                  try simp only [Act.put, sA]; try simp only [sB, sC]
                  refine goH (i := 12) (by kernel_rfl) rfl (fun K_ hK_ => ?_)
                  go_simp
                  refine (rBefore_calls (gt T' (q - 1)) (gt T' q) _).mono ?_
                  rw [HLT.out]
                  rintro e w5 ⟨rfl, st5⟩
                  refine hK_.out _ _ inferInstance (fun _ => ?_)
                  clear hK_ K_
                  try simp only [Act.put, sA]; try simp only [sB, sC]
                  refine' takeH (i := 13) (v := _) rfl (by kernel_rfl) (by kernel_rfl) (by kernel_rfl) (fun _ _ _ h => h) (yields_of (by rfl) (fun w' _ => ?_)) inferInstance ?_
                  rotate_left
                  · (go_simp; try with_reducible rfl)
                  try simp only [Act.put, sA]; try simp only [sB, sC]
                  refine' takeH (i := 14) (v := _) rfl (by kernel_rfl) (by kernel_rfl) (by kernel_rfl) (fun _ _ _ h => h) (yields_of (by rfl) (fun w' _ => ?_)) inferInstance ?_
                  rotate_left
                  · (go_simp; try with_reducible rfl)
                  try simp only [Act.put, sA]; try simp only [sB, sC]
                  refine wpAnyH_done (by kernel_rfl) ?_ _
                  go_wp2_with fail
                  exact ⟨⟨q + 1, by omega, by go_num, by rw [HB1.out], stepN⟩, by simp [intOf]; omega⟩
            · have hqI : ¬ (q : Int) < (T'.length : Int) := by omega
              obtain rfl : q = T'.length := by omega
              have hl16 : ¬ 16 < (T'.length : Int) := by omega
              have HIq : Hid (LstI w wr zr) := by
                obtain ⟨s2, R2, h1, h2⟩ := HI3.out
                exact Lib.hid ⟨s2, R2.nw stq.chg, h1, h2⟩
              by_cases hE0 : E = 0
              · obtain ⟨i, hi, hg⟩ := HTH.out hE0
                have HB1 : Hid (thB T' (gt P j) T'.length = true) := Lib.hid (thB_of hg _ hi)
                rw [HB1.out]
                subst hE0
                have e1 : ((0 : Int) == 0) = true := by decide
                have e2 : (true == true) = true := by decide
                go_wp2_with fail
                exact ⟨⟨j + 1, by omega, by go_num, nwq, HIq⟩, by simp [intOf]; omega⟩
              · have e1 : (E == 0) = false := by simpa using hE0
                cases hb : thB T' (gt P j) T'.length
                case true =>
                  go_wp2_with fail
                  exact ⟨⟨j + 1, by omega, by go_num, nwq, HIq⟩, by simp [intOf]; omega⟩
                case false =>
                  go_wp2_with fail
                  exact ⟨⟨j + 1, by omega, by go_num, nwq, HIq⟩, by simp [intOf]; omega⟩
        · have hjI : ¬ (j : Int) < n := by omega
          go_wp2_with fail
          refine (rpKnown_calls _).mono ?_
          rintro e w5 ⟨rfl, st5⟩
          go_wp2_with fail
          go_ret
          exact ⟨rfl, (stepN (w0 := w)).chg⟩
end Go.Proofs.YtgjnjhhhbkidbaaGreat
