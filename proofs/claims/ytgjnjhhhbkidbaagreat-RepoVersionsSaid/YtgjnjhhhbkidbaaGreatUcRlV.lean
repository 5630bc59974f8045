/- RlV -/
import Derived.Test.YtgjnjhhhbkidbaaGreatUcRlU
import Derived.Test.YtgjnjhhhbkidbaaGreatUcFwC
import Derived.Test.YtgjnjhhhbkidbaaGreatUcWzE
import Derived.Test.YtgjnjhhhbkidbaaGreatUcSnG
import Derived.Test.YtgjnjhhhbkidbaaGreatUcFwL
open Go Go.RowKit
namespace Go.Proofs.YtgjnjhhhbkidbaaGreat
theorem EvX.open {w : World} {lo hi : Nat} {m : List UInt8} {P : List MkV} {v0 v1 : Value} (h : EvX w lo hi m P v0 v1) : ∃ M nb cb A n c, v0 = .slice M nb cb ∧ v1 = .slice A n c ∧ Rd w M (bs m) ∧ m.length = nb ∧ nb ≤ 100000 ∧ nb ≤ cb := by
 obtain ⟨M, nb, cb, A, n, c1, l, e0, e1, h1, h2, h3, h3', _⟩ := h
 exact ⟨M, nb, cb, A, n, c1, e0, e1, h1, h2, h3, h3'⟩
theorem ClN.one {w w' : World} {x : EvM} {A : Option Addr} (h : ClN w w' [x] A 1) : ∃ (y : EvC) (M : Option Addr) (nb cb : Nat), HR w' A (cellsOf [y]) ∧ y.v0 = .slice M nb cb ∧ Rd w' M (bs x.1) ∧ x.1.length = nb ∧ nb ≤ 100000 ∧ nb ≤ cb := by
 obtain ⟨l, h1, h2, h3⟩ := h
 match l, h2 with
 | [y], _ =>
  obtain ⟨M, nb, cb, A2, n, c1, l2, e0, e1, g1, g2, g3, g4, _⟩ := h3.out.2.2 0 (Nat.zero_lt_one)
  exact ⟨y, M, nb, cb, h1, e0, g1, g2, g3, g4⟩
def hV3 : H32 := ⟨3 :: List.replicate 31 0, by simp⟩
theorem run_hV3 (w : World) : (Instr.build 23 #[(0, .int .u8 3)]).run Tryz.prog w = .ok (.agg (u8s hV3.l)) w := by kernel_rfl
def VerI (w wr : World) (zr : Nat) (j : Int) : Prop := ∃ s, RpAt wr zr s ∧ s.T = [] ∧ s.D = [] ∧ s.xl = [] ∧ s.u1 = 3 * j ∧ s.v = j ∧ ∀ x, rpO zr s x ∨ s.O x → w.heap.size ≤ x
set_option maxRecDepth 100000 in
set_option maxHeartbeats 6400000 in
theorem repoVersions_calls (n life : Int) (w : World) :
    Calls Tryz.prog 6 #[.int .i64 n, .int .i64 life] w fun e w' => e = .returned (.bool true) ∧ Chg nowhere w w' := by
 by_cases c1 : n < 1
 · go_enter Tryz.func6, Tryz.ntmps6
   go_wp2_with fail
   go_ret
   exact ⟨rfl, (stepN (w0 := w)).chg⟩
 by_cases c2 : 5 < n
 · go_enter Tryz.func6, Tryz.ntmps6
   go_wp2_with fail
   go_ret
   exact ⟨rfl, (stepN (w0 := w)).chg⟩
 by_cases c3 : life < 0
 · go_enter Tryz.func6, Tryz.ntmps6
   go_wp2_with fail
   go_ret
   exact ⟨rfl, (stepN (w0 := w)).chg⟩
 by_cases c4 : 1000 < life
 · go_enter Tryz.func6, Tryz.ntmps6
   go_wp2_with fail
   go_ret
   exact ⟨rfl, (stepN (w0 := w)).chg⟩
 go_enter Tryz.func6, Tryz.ntmps6
 go_wp2_with (first | ((with_reducible apply wpl_build); exact run_hV3 _))
 refine (newS_calls hV3 _).mono ?_
 rintro e w1 ⟨zr, rfl, st1, hN1⟩
 have nw1 : Nw w w1 := ⟨st1.chg⟩
 have HI1 : Hid (VerI w w1 zr 0) := by
  obtain ⟨z0, z1, R, hlo⟩ := hN1
  exact Lib.hid ⟨_, R, rfl, rfl, rfl, rfl, rfl, fun x h => by
   rcases h with h | h
   · exact hlo x h
   · exact h.elim⟩
 clear hN1 st1
 go_wp2_with fail
 go_loopw [6] (fun iv wr => ∃ j : Int, 0 ≤ j ∧ j ≤ n ∧ iv = .int .i64 (j + 1) ∧ Nw w wr ∧ Hid (VerI w wr zr j)) (fun iv _ => (n + 1 - intOf iv).toNat)
 case atStart => exact ⟨0, Int.le_refl _, by omega, rfl, nw1, HI1⟩
 case round =>
  clear nw1 HI1
  obtain ⟨j, hj0, hjn, rfl, nwr, HI⟩ := hrel
  obtain ⟨s, R, hT, hD, hX, hu, hv, lo⟩ := HI.out
  by_cases hlt : j + 1 ≤ n
  · have hver : verB (j + 1) = true := by unfold verB; rw [decide_eq_true (by omega), decide_eq_true (by omega)]; rfl
    have hnum : numB (j + 1 + life) = true := by unfold numB; rw [decide_eq_true (by omega), decide_eq_true (by omega)]; rfl
    have hC2 := signS_calls R (j + 1) life (by rw [hT]; exact (fun i j _ h => absurd h (Nat.not_lt_zero _))) (by rw [hT]; exact fun t h => (by cases h)) (by rw [hT]; exact Nat.zero_le _) (by rw [hD]; exact Nat.zero_le _) (by omega) (by omega) (by omega) (by omega) (by omega) (by omega) (by omega)
    go_wp2_with fail
    refine hC2.mono ?_
    rintro e w2 ⟨rfl, xa, xb, xc, xd, zE, ev, C', cc', O', N2⟩
    obtain ⟨nw2, lo2⟩ := nw_next nwr N2 lo
    have R2 := N2.at'
    have HI2 : Hid (VerI w w2 zr (j + 1)) := Lib.hid ⟨_, R2, hT, by show s.D ++ s.T = []; rw [hD, hT]; rfl, hX, by show s.u1 + 3 = _; omega, by show s.v + 1 = _; omega, lo2⟩
    have hC3 := bundleS_calls R2 (by show s.xl.length ≤ _; rw [hX]; exact Nat.zero_le _) (by show 1 ≤ _; decide)
    dsimp only at hC3
    rw [show s.xl.length = 0 by rw [hX]; rfl, show [ev].length = 1 from rfl] at hC3
    have hbT : (nmM s (j + 1 + life)).1 = timE (j + 1) (j + 1 + life) (j + 1) (shaH (sgS (j + 1) (j + 1 + life))) := by unfold nmM sgM timE; rw [hv]
    have hbS : (nmS s (j + 1 + life)).1 = snapE (j + 1) (j + 1 + life) [⟨mayL, j + 1⟩] := by unfold nmS sgS; rw [hv]
    have hbG : (nmT s (j + 1 + life)).1 = tgsEM mayL (j + 1) (j + 1 + life) [] [] := by
     unfold nmT sgT
     rw [hv, hT]
     exact tgsB_m mayL (j + 1) (j + 1 + life) (P := []) (D := []) rfl rfl
    have HBT := Lib.hid hbT
    have HBS := Lib.hid hbS
    have HBG := Lib.hid hbG
    clear hbT hbS hbG hC2 N2 R2 lo2 nwr HI R lo
    go_wp2_with fail
    refine hC3.mono ?_
    rintro e w3 ⟨a, b, c, d, A1, c1, A2, c2, rfl, st3, hB⟩
    obtain ⟨hEt, hEs, _, hCg⟩ := hB.out
    obtain ⟨M1, n1, k1, B1, m1, l1, rfl, rfl, hr1, hl1, hn1, hk1⟩ := hEt.open
    obtain ⟨M2, n2, k2, B2, m2, l2, rfl, rfl, hr2, hl2, hn2, hk2⟩ := hEs.open
    obtain ⟨y, M3, n3, k3, hrG, hy0, hr3, hl3, hn3, hk3⟩ := hCg.one
    rw [HBT.out] at hr1 hl1
    rw [HBS.out] at hr2 hl2
    rw [HBG.out] at hr3 hl3
    have HI3 : Hid (VerI w w3 zr (j + 1)) := by
     obtain ⟨s2, R2, q1, q2, q3, q4, q5, q6⟩ := HI2.out
     exact Lib.hid ⟨s2, R2.nw st3.chg, q1, q2, q3, q4, q5, q6⟩
    have nw3 : Nw w w3 := ⟨nw2.out.trans st3.chg (fun _ _ h => h)⟩
    obtain ⟨b1, hb1⟩ : ∃ b, b = timE (j + 1) (j + 1 + life) (j + 1) (shaH (sgS (j + 1) (j + 1 + life))) := ⟨_, rfl⟩
    obtain ⟨b2, hb2⟩ : ∃ b, b = snapE (j + 1) (j + 1 + life) [⟨mayL, j + 1⟩] := ⟨_, rfl⟩
    obtain ⟨b3, hb3⟩ : ∃ b, b = tgsEM mayL (j + 1) (j + 1 + life) [] [] := ⟨_, rfl⟩
    rw [← hb1] at hr1 hl1
    rw [← hb2] at hr2 hl2
    rw [← hb3] at hr3 hl3
    have hF1 := tim_fwd (sgM_ok (j + 1) (j + 1 + life) hver hnum) (shaH (sgS (j + 1) (j + 1 + life)))
    have hF2 := snap_fwd (sgS_ok (j + 1) (j + 1 + life) hver hnum)
    have hF3 := tgM_fwd (nm := mayL) (v := j + 1) (e0 := j + 1 + life) (P := []) (M := []) (by
     unfold tgsOkM
     rw [hver, hnum]
     rfl)
    rw [← hb1] at hF1
    rw [← hb2] at hF2
    rw [← hb3] at hF3
    have HF1 := Lib.hid hF1
    have HF2 := Lib.hid hF2
    have HF3 := Lib.hid hF3
    have hR1 : HR w3 M1 (bs b1) := ⟨hr1⟩
    have hR2 : HR w3 M2 (bs b2) := ⟨hr2⟩
    have hR3 : HR w3 M3 (bs b3) := ⟨hr3⟩
    obtain ⟨HH, hHH⟩ : ∃ h, h = shaH (sgS (j + 1) (j + 1 + life)) := ⟨_, rfl⟩
    rw [← hHH] at HF1
    clear hb1 hb2 hb3 hF1 hF2 hF3 hr1 hr2 hr3 hEt hEs hCg hB HBT HBS HBG HI2 nw2 st3 hC3 hHH hT hD hX hu hv hver hnum
    go_wp2_with (first | ((with_reducible apply (wpl_alloc (dst := some 7))); intro z7 wz7 _ _ _) | ((with_reducible apply wpl_loadcellN); exact rfl; infer_instance; exact rfl) | ((with_reducible apply wpl_storerow); exact rfl; exact rfl; infer_instance; infer_instance; (first | (with_reducible assumption) | (with_reducible exact H32.size _) | (with_reducible exact enc_sz _ rfl) | kernel_rfl); (first | (with_reducible assumption) | (with_reducible exact H32.size _) | (with_reducible exact enc_sz _ rfl) | kernel_rfl); (first | (with_reducible exact u8s_one _) | (with_reducible assumption) | (with_reducible exact enc_one _) | kernel_rfl); intro ws _ _))
    have h7s : HB ws z7 34 #[.slice A1 0 c1, .slice M1 n1 k1, .slice B1 m1 l1, .slice M2 n2 k2, .slice B2 m2 l2, .slice A2 1 c2] := inferInstance
    refine (rDecodeTime_calls hl1 hk1 (by omega)).mono ?_
    unfold DecT
    rw [HF1.out.1, HF1.out.2, if_pos rfl]
    rintro e w4 ⟨st4, rfl⟩
    have hszT : (timL (j + 1) (j + 1 + life) (j + 1) HH).toArray.size = 35 := by show (timL _ _ _ HH).length = 35; simp [timL, bs_length]
    have honT := timL_one (j + 1) (j + 1 + life) (j + 1) HH
    go_wp2_with (first | ((with_reducible apply (wpl_alloc (dst := some 8))); intro z8 wz8 _ _ _) | ((with_reducible apply wpl_loadcellN); exact rfl; infer_instance; exact rfl) | ((with_reducible apply wpl_storerow); exact rfl; exact rfl; infer_instance; infer_instance; (first | (with_reducible assumption) | (with_reducible exact H32.size _) | (with_reducible exact enc_sz _ rfl) | kernel_rfl); (first | (with_reducible assumption) | (with_reducible exact H32.size _) | (with_reducible exact enc_sz _ rfl) | kernel_rfl); (first | (with_reducible exact u8s_one _) | (with_reducible assumption) | (with_reducible exact enc_one _) | kernel_rfl); intro ws _ _))
    refine (rDecodeSnap_calls hl2 hk2 (by omega)).mono ?_
    unfold DecSn
    rintro e w5 ⟨st5, v5, x5, A5, n5, c5, P5, err5, rfl, h5, hr5, hn5⟩
    obtain ⟨hm5, hl5, _, _⟩ := h5.out
    rw [HF2.out] at hm5
    injection hm5 with q1 hm5
    injection hm5 with q2 hm5
    injection hm5 with q3 q4
    subst q1 q2 q3 q4
    have hl5' : n5 = 1 := hl5.symm
    subst hl5'
    have hR5 : HR w5 A5 (cellsOf [(⟨mayL, j + 1⟩ : PinR)]) := ⟨hr5.out⟩
    clear h5 hr5 hl5
    have hxs : [y].length = 1 := rfl
    have h01 : (0 : Nat) < [y].length := Nat.zero_lt_one
    have hy0' : nth (RowC.enc (gt [y] 0)) 0 = some (.slice M3 n3 k3) := by show some y.v0 = _; rw [hy0]
    go_wp2_with (first | ((with_reducible apply (wpl_indexE0 (α := EvC) (t := 28))); exact rfl; infer_instance; infer_instance; exact hxs; exact rfl; (decide); (decide)) | ((with_reducible apply (wpl_loadF (α := EvC) (k := 0) (j := 0) (s := 2))); infer_instance; exact rfl; infer_instance; exact rfl; exact h01; exact hy0') | ((with_reducible apply (wpl_alloc (dst := some 10))); intro z10 wz10 _ _ _) | ((with_reducible apply wpl_loadcellN); exact rfl; infer_instance; exact rfl) | ((with_reducible apply wpl_storerow); exact rfl; exact rfl; infer_instance; infer_instance; (first | (with_reducible assumption) | (with_reducible exact H32.size _) | (with_reducible exact enc_sz _ rfl) | kernel_rfl); (first | (with_reducible assumption) | (with_reducible exact H32.size _) | (with_reducible exact enc_sz _ rfl) | kernel_rfl); (first | (with_reducible exact u8s_one _) | (with_reducible assumption) | (with_reducible exact enc_one _) | kernel_rfl); intro ws _ _) | ((with_reducible apply (wpl_fieldE (t := 32))); exact Tryz.underlying32; exact rfl; (kernel_rfl); exact rfl; infer_instance; exact cells_pos (by decide) (by omega)))
    refine (rDecodeTargets_calls hl3 hk3 (by omega)).mono ?_
    unfold DecTg
    rintro e w6 ⟨st6, nm6, v6, x6, A6, n6, c6, C6, m6, q6, P6, D6, err6, rfl, h6, hr6, hn6, hn6b⟩
    have hm6 := h6.out.1
    rw [HF3.out] at hm6
    injection hm6 with q1 hm6
    injection hm6 with q2 hm6
    injection hm6 with q3 hm6
    injection hm6 with q4 hm6
    injection hm6 with q5 q6
    subst q1 q2 q3 q6
    clear h6 hr6 hn6 hn6b q4 q5
    have hps : [(⟨mayL, j + 1⟩ : PinR)].length = 1 := rfl
    have hp1 : (0 : Nat) < [(⟨mayL, j + 1⟩ : PinR)].length := Nat.zero_lt_one
    have hpv : nth (RowC.enc (gt [(⟨mayL, j + 1⟩ : PinR)] 0)) 1 = some (.int .i64 (j + 1)) := rfl
    have hq : ((strL mayL).toList == [116, 111, 112]) = true := by rw [strL_list]; rfl
    have hC9 : Hid (Chg nowhere w3 w6) := Lib.hid (stepN (w0 := w3) (w := w6)).chg
    have nw6 : Nw w3 w6 := ⟨hC9.out⟩
    go_wp2_with (first | ((with_reducible apply (wpl_indexE0 (α := PinR) (t := 57))); exact rfl; infer_instance; infer_instance; exact hps; exact rfl; (decide); (decide)) | ((with_reducible apply (wpl_loadF (α := PinR) (k := 0) (j := 1) (s := 2))); infer_instance; exact rfl; infer_instance; exact rfl; exact hp1; exact hpv) | ((with_reducible apply (wpl_alloc (dst := some 12))); intro z12 wz12 _ _ _) | ((with_reducible apply (wpl_guard (op := .load _ _))); exact rfl) | ((with_reducible apply (wpl_guard (op := .indexAddr _ _ _))); exact rfl) | ((with_reducible apply (wpl_guard (op := .fieldAddr _ _ _))); exact rfl) | ((with_reducible apply wpl_loadcellN); exact rfl; infer_instance; exact rfl) | ((with_reducible apply wpl_storerow); exact rfl; exact rfl; infer_instance; infer_instance; (first | (with_reducible assumption) | (with_reducible exact H32.size _) | (with_reducible exact enc_sz _ rfl) | kernel_rfl); (first | (with_reducible assumption) | (with_reducible exact H32.size _) | (with_reducible exact enc_sz _ rfl) | kernel_rfl); (first | (with_reducible exact u8s_one _) | (with_reducible assumption) | (with_reducible exact enc_one _) | kernel_rfl); intro ws _ _) | ((with_reducible apply (wpl_fieldE (t := 68))); exact Tryz.underlying68; exact rfl; (kernel_rfl); exact rfl; infer_instance; exact cells_pos (by decide) (by omega)))
    refine ⟨⟨j + 1, by omega, by omega, rfl, ⟨nw3.out.trans (stepN (w0 := w3)).chg (fun _ _ h => h)⟩, Lib.hid ?_⟩, by simp [intOf]; omega⟩
    obtain ⟨s2, R2, q1, q2, q3, q4, q5, q6⟩ := HI3.out
    exact ⟨s2, R2.nw (stepN (w0 := w3)).chg, q1, q2, q3, q4, q5, q6⟩
  · go_wp2_with fail
    refine (rpKnownG_calls _).mono ?_
    rintro e w5 ⟨rfl, st5⟩
    go_wp2_with fail
    go_ret
    exact ⟨rfl, (stepN (w0 := w)).chg⟩
end Go.Proofs.YtgjnjhhhbkidbaaGreat
