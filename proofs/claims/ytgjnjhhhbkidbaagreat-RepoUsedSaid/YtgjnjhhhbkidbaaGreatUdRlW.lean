/- RlW -/
import Derived.Test.YtgjnjhhhbkidbaaGreatUdRlX
open Go Go.RowKit
namespace Go.Proofs.YtgjnjhhhbkidbaaGreat
theorem ClN.at' {w w' : World} {L : List EvM} {A : Option Addr} {n : Nat} (h : ClN w w' L A n) : ∃ l : List EvC, Rd w' A (cellsOf l) ∧ l.length = n ∧ EvAt w' l L n := by
  obtain ⟨l, h1, h2, h3⟩ := h
  exact ⟨l, h1.out, h2, fun i hi => (h3.out.2.2 i (by omega)).v⟩
theorem EvX.one2 {w : World} {lo hi : Nat} {m : List UInt8} {P : List MkV} {v0 v1 : Value} (h : EvX w lo hi m P v0 v1) : v0.oneCell' = true ∧ v1.oneCell' = true := h.v.one
def UseI (w wr : World) (zr : Nat) (j : Int) : Prop := ∃ s, RpAt wr zr s ∧ s.T = [] ∧ s.D = [] ∧ s.xl = [] ∧ s.u1 = 3 * j ∧ s.v = j ∧ s.u0 = 0 ∧ s.g = 1 ∧ s.gl.length ≤ 1 ∧ ∀ x, rpO zr s x ∨ s.O x → w.heap.size ≤ x
set_option maxRecDepth 100000 in
set_option maxHeartbeats 6400000 in
theorem repoUsed_calls (sd : H32) (w : World) :
    Calls Tryz.prog 3 #[.agg (u8s sd.l)] w fun e w' => e = .returned (.bool true) ∧ Chg nowhere w w' := by
  go_enter Tryz.func3, Tryz.ntmps3
  go_wp2_with (first | ((with_reducible apply (wpl_box_agg (dst := some 1))); (exact rfl); intro zs wzs _ _ _) | ((with_reducible apply wpl_loadrow); (exact rfl); infer_instance; infer_instance; (first | (with_reducible assumption) | (with_reducible exact H32.size _) | kernel_rfl)))
  refine (newS_calls sd _).mono ?_
  rintro e w1 ⟨zr, rfl, st1, hN1⟩
  have nw0 : Nw w wzs := inferInstance
  have nw1 : Nw w w1 := ⟨nw0.out.trans st1.chg (fun _ _ h => h)⟩
  have HI1 : Hid (UseI w w1 zr 0) := by
    obtain ⟨z0, z1, R, hlo⟩ := hN1
    have hle := nw0.out.size
    exact Lib.hid ⟨_, R, rfl, rfl, rfl, rfl, rfl, rfl, rfl, Nat.zero_le _, fun x h => by
      rcases h with h | h
      · exact Nat.le_trans hle (hlo x h)
      · exact h.elim⟩
  clear hN1 st1 nw0
  go_wp2_with fail
  go_loopw [4] (fun iv wr => ∃ j : Nat, j ≤ 5 ∧ iv = .int .i64 (j : Int) ∧ Nw w wr ∧ Hid (UseI w wr zr (j : Int))) (fun iv _ => 5 - (intOf iv).toNat)
  case atStart => exact ⟨0, Nat.zero_le _, rfl, nw1, HI1⟩
  case round =>
    clear nw1 HI1
    obtain ⟨j, hj5, rfl, nwr, HI⟩ := hrel
    obtain ⟨s, R, hT, hD, hX, hu, hv, hu0, hg, hgl, lo⟩ := HI.out
    have h9 : (0 : Int) + 9 ≤ 1073741824 := by decide
    by_cases hlt : j < 5
    · have hltI : (j : Int) < 5 := by omega
      have hC2 := signS_calls R 0 9 (by rw [hT]; exact (fun i j _ h => absurd h (Nat.not_lt_zero _))) (by rw [hT]; exact fun t h => (by cases h)) (by rw [hT]; exact Nat.zero_le _) (by rw [hD]; exact Nat.zero_le _) (by omega) (by omega) (by omega) (by omega) (by decide) (by decide) (by decide)
      go_wp2_with fail
      refine hC2.mono ?_
      rintro e w2 ⟨rfl, xa, xb, xc, xd, zE, ev, C', cc', O', N2⟩
      obtain ⟨nw2, lo2⟩ := nw_next nwr N2 lo
      have HI2 : Hid (UseI w w2 zr ((j : Int) + 1)) := Lib.hid ⟨_, N2.at', hT, by show s.D ++ s.T = []; rw [hD, hT]; rfl, hX, by show s.u1 + 3 = _; omega, by show s.v + 1 = _; omega, hu0, hg, Nat.le_refl _, lo2⟩
      clear hC2 N2 lo2 nwr HI R lo
      go_wp2_with fail
      exact ⟨⟨j + 1, by omega, by go_num, nw2, HI2⟩, by simp [intOf]; omega⟩
    · have hltI : ¬ (j : Int) < 5 := by omega
      obtain rfl : j = 5 := by omega
      have hxl : s.xl.length = 0 := by rw [hX]; rfl
      have hC3 := bundleS_calls R (by omega) (by omega)
      rw [hxl] at hC3
      go_wp2_with fail
      refine hC3.mono ?_
      rintro e w3 ⟨a, b, c, d, A1, c1, A2, c2, rfl, st3, hB⟩
      have R3 := R.nw st3.chg
      have nw3 : Nw w w3 := ⟨nwr.out.trans st3.chg (fun _ _ h => h)⟩
      obtain ⟨hEt, hEs, hCx, hCg⟩ := hB.out
      obtain ⟨l1, hr1, hl1, he1⟩ := hCx.at'
      obtain ⟨l2, hr2, hl2, he2⟩ := hCg.at'
      have HEt := Lib.hid hEt.v
      have HEs := Lib.hid hEs.v
      have H1 := Lib.hid hr1
      have H2 := Lib.hid hr2
      have HE1 := Lib.hid he1
      have HE2 := Lib.hid he2
      have hone : Hid ((#[.slice A1 0 c1, a, b, c, d, .slice A2 s.gl.length c2] : Array Value).all (·.oneCell') = true) := Lib.hid (six_one _ _ _ _ _ _ rfl hEt.one2.1 hEt.one2.2 hEs.one2.1 hEs.one2.2 rfl)
      clear hB hEt hEs hCx hCg hr1 hr2 he1 he2 hC3 R nwr HI st3
      go_wp2_with (first | ((with_reducible apply wpl_storerow); (exact rfl); (exact rfl); infer_instance; infer_instance; (exact rfl); (exact rfl); (exact hone.out); intro ws _ _) | ((with_reducible apply (wpl_alloc (dst := some 5))); intro z5 wz5 _ _ _))
      have hws : Chg nowhere w3 ws := (stepN (w0 := w3) (w := ws)).chg
      have R4 := R3.nw hws
      have nw4 : Nw w ws := ⟨nw3.out.trans hws (fun _ _ h => h)⟩
      have h5s : HB ws z5 34 #[.slice A1 0 c1, a, b, c, d, .slice A2 s.gl.length c2] := inferInstance
      refine (signU_calls R4 0 9 (by decide) (by decide) (by decide) (by omega)).mono ?_
      rintro e w5 ⟨rfl, st5⟩
      have R5 := R4.nw st5.chg
      have nw5 : Nw w w5 := ⟨nw4.out.trans st5.chg (fun _ _ h => h)⟩
      have hc35 : Hid (Chg nowhere w3 w5) := Lib.hid (hws.trans st5.chg (fun _ _ h => h))
      clear R3 R4 hws nw3 nw4
      go_wp2_with fail
      have hC6 := fun (wd : World) (h : Chg nowhere w5 wd) => bundleS_calls (R5.nw h) (by omega) (by omega)
      rw [hxl] at hC6
      refine wp_region_N (nowhere) (by kernel_rfl) (fun wd _ _ => ?_)
      refine' takeH (i := 0) (v := _) rfl (by kernel_rfl) (by kernel_rfl) (by kernel_rfl) (fun _ _ _ h => h) (yields_of (by rfl) (fun w' _ => ?_)) inferInstance ?_
      rotate_left
      · (go_simp; try with_reducible rfl)
      try simp only [Act.put, sA]; try simp only [sB, sC]
      refine' takeH (i := 1) (v := _) rfl (by kernel_rfl) (by kernel_rfl) (by kernel_rfl) (fun _ _ _ h => h) (yields_of (by rfl) (fun w' _ => ?_)) inferInstance ?_
      rotate_left
      · (go_simp; try with_reducible rfl)
      try simp only [Act.put, sA]; try simp only [sB, sC]
      refine' takeH (i := 2) (v := _) rfl (by kernel_rfl) (by kernel_rfl) (by kernel_rfl) (fun _ _ _ h => h) (yields_of (by rfl) (fun w' _ => ?_)) inferInstance ?_
      rotate_left
      · (go_simp; try with_reducible rfl)
      try simp only [Act.put, sA]; try simp only [sB, sC]
      refine' takeH (i := 3) (v := _) rfl (by kernel_rfl) (by kernel_rfl) (by kernel_rfl) (fun _ _ _ h => h) (yields_of (by rfl) (fun w' _ => ?_)) inferInstance ?_
      rotate_left
      · ((with_reducible apply ev_loadrow); (exact rfl); infer_instance; infer_instance; (first | (with_reducible assumption) | (with_reducible exact H32.size _) | kernel_rfl))
      try simp only [Act.put, sA]; try simp only [sB, sC]
      refine' takeH (i := 4) (v := _) rfl (by kernel_rfl) (by kernel_rfl) (by kernel_rfl) (fun _ _ _ h => h) (yields_of (by rfl) (fun w' _ => ?_)) inferInstance ?_
      rotate_left
      · (go_simp; try with_reducible rfl)
      try simp only [Act.put, sA]; try simp only [sB, sC]
      refine goH (i := 5) (by kernel_rfl) rfl (fun K_ hK_ => ?_)
      go_simp
      refine (hC6 _ (stepN (w0 := w5)).chg).mono ?_
      rintro e w6 ⟨a', b', c', d', B1, d1, B2, d2, rfl, st6, hB⟩
      have HB6 := Lib.hid hB
      clear hB
      refine hK_.out _ _ inferInstance (fun _ => ?_)
      clear hK_ K_
      try simp only [Act.put, sA]; try simp only [sB, sC]
      refine goH (i := 6) (by kernel_rfl) rfl (fun K_ hK_ => ?_)
      go_simp
      obtain ⟨gEt, gEs, gCx, gCg⟩ := HB6.out
      obtain ⟨k1, gr1, gl1, ge1⟩ := gCx.at'
      obtain ⟨k2, gr2, gl2, ge2⟩ := gCg.at'
      have hc36 : Chg nowhere w3 w6 := (hc35.out.trans (stepN (w0 := w5) (w := wd)).chg (fun _ _ h => h)).trans st6.chg (fun _ _ h => h)
      refine (sameB_calls l1 l2 k1 k2 (HEt.out.nw hc36) (HEs.out.nw hc36) gEt.v gEs.v (H1.out.chg hc36 (fun _ _ _ h => h)) (H2.out.chg hc36 (fun _ _ _ h => h)) gr1 gr2 hl1 hl2 gl1 gl2 (by omega) (by omega) (HE1.out.nw hc36) (HE2.out.nw hc36) ge1 ge2).mono ?_
      rintro e w7 ⟨rfl, st7⟩
      refine hK_.out _ _ inferInstance (fun _ => ?_)
      clear hK_ K_
      try simp only [Act.put, sA]; try simp only [sB, sC]
      refine' takeH (i := 7) (v := _) rfl (by kernel_rfl) (by kernel_rfl) (by kernel_rfl) (fun _ _ _ h => h) (yields_of (by rfl) (fun w' _ => ?_)) inferInstance ?_
      rotate_left
      · (go_simp; try with_reducible rfl)
      try simp only [Act.put, sA]; try simp only [sB, sC]
      refine' takeH (i := 8) (v := _) rfl (by kernel_rfl) (by kernel_rfl) (by kernel_rfl) (fun _ _ _ h => h) (yields_of (by rfl) (fun w' _ => ?_)) inferInstance ?_
      rotate_left
      · (go_simp; try with_reducible rfl)
      try simp only [Act.put, sA]; try simp only [sB, sC]
      refine wpAnyH_done (by kernel_rfl) ?_ _
      have hc57 : Chg nowhere w5 w7 := ((stepN (w0 := w5) (w := wd)).chg.trans st6.chg (fun _ _ h => h)).trans st7.chg (fun _ _ h => h)
      have R7 := R5.nw hc57
      have nw7 : Nw w w7 := ⟨nw5.out.trans hc57 (fun _ _ h => h)⟩
      clear hC6 R5 nw5 hc57 HB6 st6 st7
      go_wp2_with fail
      refine (rotateS_calls R7 (by omega) (by omega) (by omega) (by omega) (by omega)).mono ?_
      rintro e w8 ⟨rfl, zk, X', xc', ev8, O8, N8⟩
      obtain ⟨nw8, lo8⟩ := nw_next nw7 N8 lo
      have hC9 := signS_calls N8.at' 0 9 (by show RiseR s.T; rw [hT]; exact (fun i j _ h => absurd h (Nat.not_lt_zero _))) (by show ∀ t ∈ s.T, _; rw [hT]; exact fun t h => (by cases h)) (by show s.T.length ≤ _; rw [hT]; exact Nat.zero_le _) (by show s.D.length ≤ _; rw [hD]; exact Nat.zero_le _) (by show (0 : Int) ≤ 0; decide) (by show (0 : Int) ≤ 13; decide) (by show 0 ≤ s.v; omega) (by show s.v ≤ _; omega) (by decide) (by decide) (by decide)
      clear N8 R7 nw7
      go_wp2_with fail
      refine hC9.mono ?_
      rintro e w9 ⟨rfl, xa, xb, xc, xd, zE, ev, C', cc', O', N9⟩
      obtain ⟨nw9, _⟩ := nw_next nw8 N9 lo8
      clear hC9 N9 nw8
      go_wp2_with fail
      refine (rpKnownG_calls _).mono ?_
      rintro e w10 ⟨rfl, st10⟩
      go_wp2_with fail
      go_ret
      exact ⟨rfl, (stepN (w0 := w)).chg⟩
end Go.Proofs.YtgjnjhhhbkidbaaGreat
