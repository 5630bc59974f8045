/- RlS -/
import Derived.Test.YtgjnjhhhbkidbaaGreatUbRlR
import Derived.Test.YtgjnjhhhbkidbaaGreatUbRlU
open Go Go.RowKit
namespace Go.Proofs.YtgjnjhhhbkidbaaGreat
def hR3 : H32 := ⟨3 :: List.replicate 31 0, by simp⟩
theorem run_hB3 (w : World) : (Instr.build 23 #[(0, .int .u8 3)]).run Tryz.prog w = .ok (.agg (u8s hR3.l)) w := by kernel_rfl
/-- a repo along a script of that many acts, beside a row of the law's own -/
structure LedS (w wr : World) (zr : Nat) (j : Int) (W : Option Addr) (s : RpS) : Prop where
  R : RpAt wr zr s
  ok : TOk s.T
  lo : ∀ x, rpO zr s x ∨ s.O x → w.heap.size ≤ x
  dl : (s.D.length : Int) ≤ 16 * j
  xl : (s.xl.length : Int) ≤ j
  u0 : 0 ≤ s.u0 ∧ s.u0 ≤ 16
  g : s.g = 1 + s.u0
  u1 : 0 ≤ s.u1
  v : 0 ≤ s.v ∧ s.v ≤ j
  off : ∀ ad, W = some ad → w.heap.size ≤ ad.block ∧ ¬ (rpO zr s ad.block ∨ s.O ad.block)
def LedI (w wr : World) (zr : Nat) (j : Int) (W : Option Addr) (D : List TargetR) : Prop := ∃ s, LedS w wr zr j W s ∧ s.D = D
/-- a call made of the repo what it is now; the law's row is as it was -/
theorem LedS.next {w wr w' : World} {zr : Nat} {j : Int} {W : Option Addr} {s s' : RpS} {n c : Nat} {D : List TargetR} (L : LedS w wr zr j W s) (N : RpNext wr w' zr s s') (hW : HO wr 42 37 W n c (cellsOf D)) (hw : Nw w wr) (ok : TOk s'.T) (dl : (s'.D.length : Int) ≤ 16 * (j + 1)) (xl : (s'.xl.length : Int) ≤ j + 1) (u0 : 0 ≤ s'.u0 ∧ s'.u0 ≤ 16) (g : s'.g = 1 + s'.u0) (u1 : 0 ≤ s'.u1) (v : 0 ≤ s'.v ∧ s'.v ≤ j + 1) :
    LedS w w' zr (j + 1) W s' ∧ HO w' 42 37 W n c (cellsOf D) ∧ Nw w w' := by
  refine ⟨⟨N.at', ok, fun x h => ?_, dl, xl, u0, g, u1, v, fun ad e => ⟨(L.off ad e).1, fun h => ?_⟩⟩, ⟨hW.out.chg N.st (fun ad e h => (L.off ad e).2 (.inl h))⟩, ⟨hw.out.trans N.st (fun x hx h => by have := L.lo x (.inl h); omega)⟩⟩
  · rcases N.fr x h with h1 | h1
    · exact L.lo x h1
    · exact Nat.le_trans hw.out.size h1
  · rcases N.fr _ h with h1 | h1
    · exact (L.off ad e).2 h1
    · have := hW.out.lt e
      omega
theorem LedS.same {w wr w' : World} {zr : Nat} {j : Int} {W : Option Addr} {s : RpS} {n c : Nat} {D : List TargetR} (L : LedS w wr zr j W s) (st : Step nowhere wr w') (hW : HO wr 42 37 W n c (cellsOf D)) (hw : Nw w wr) (_ : 0 ≤ j) :
    LedS w w' zr (j + 1) W s ∧ HO w' 42 37 W n c (cellsOf D) ∧ Nw w w' :=
  ⟨⟨L.R.nw st.chg, L.ok, L.lo, by have := L.dl; omega, by have := L.xl; omega, L.u0, L.g, L.u1, ⟨L.v.1, by have := L.v.2; omega⟩, L.off⟩, ⟨hW.out.chg st.chg (fun _ _ h => h)⟩, ⟨hw.out.trans st.chg (fun _ _ h => h)⟩⟩
theorem LedS.nw {w wr w' : World} {zr : Nat} {j : Int} {W : Option Addr} {s : RpS} (L : LedS w wr zr j W s) (c : Chg nowhere wr w') : LedS w w' zr j W s := ⟨L.R.nw c, L.ok, L.lo, L.dl, L.xl, L.u0, L.g, L.u1, L.v, L.off⟩
theorem LedS.append {w wr w' : World} {zr : Nat} {j : Int} {W W2 : Option Addr} {s : RpS} (L : LedS w wr zr j W s) (c : Chg (rowOf W) wr w') (hz : w.heap.size ≤ wr.heap.size) (hg : ∀ ad, W2 = some ad → W2 = W ∨ wr.heap.size ≤ ad.block) : LedS w w' zr j W2 s :=
  ⟨L.R.chg c (fun y ⟨ad, e, h⟩ => by
    have h1 := (L.off ad e).2
    rw [h] at h1
    exact ⟨fun h2 => h1 (.inl h2), fun h2 => h1 (.inr h2)⟩), L.ok, L.lo, L.dl, L.xl, L.u0, L.g, L.u1, L.v, fun ad e => by
    rcases hg ad e with h1 | h1
    · rw [h1] at e
      exact L.off ad e
    · refine ⟨Nat.le_trans hz h1, fun h => ?_⟩
      rcases h with h | h
      · have := L.R.lts _ h
        omega
      · have := L.R.oLt _ h
        omega⟩
set_option maxRecDepth 100000 in
set_option maxHeartbeats 6400000 in
theorem repoLedger_calls {A : Option Addr} {n c : Nat} {P : List AcR} {w : World} [hr : HR w A (cellsOf P)] (hl : P.length = n) (hn9 : n ≤ 9223372036854775807) :
    Calls Tryz.prog 5 #[.slice A n c] w fun e w' => e = .returned (.bool true) ∧ Chg nowhere w w' := by
  have HRR := Lib.hid hr.out
  have HL := Lib.hid hl
  go_enter Tryz.func5, Tryz.ntmps5
  go_wp2_with fail
  refine (rpLong_calls hl hn9).mono ?_
  rintro e w1 ⟨rfl | rfl, st1⟩
  · go_wp2_with fail
    go_ret
    exact ⟨rfl, (stepN (w0 := w)).chg⟩
  · go_wp2_with (first | ((with_reducible apply wpl_build); (exact run_hB3 _)))
    refine (newS_calls hR3 _).mono ?_
    rintro e w2 ⟨zr, rfl, st2, hN2⟩
    have nw2 : Nw w w2 := ⟨st1.chg.trans st2.chg (fun _ _ h => h)⟩
    have HI2 : Hid (LedI w w2 zr 0 none []) := by
      obtain ⟨z0, z1, R, hlo⟩ := hN2
      have hle : w.heap.size ≤ w1.heap.size := st1.chg.size
      exact Lib.hid ⟨_, ⟨R, TOk.nil, fun x h => by
        rcases h with h | h
        · exact Nat.le_trans hle (hlo x h)
        · exact h.elim, Int.le_refl _, Int.le_refl _, ⟨Int.le_refl _, (by show (0 : Int) ≤ 16; decide)⟩, rfl, Int.le_refl _, ⟨Int.le_refl _, Int.le_refl _⟩, fun ad e => (by cases e)⟩, rfl⟩
    have hW2 : HO w2 42 37 none 0 0 (cellsOf ([] : List TargetR)) := ⟨Own.nil _ _ _⟩
    clear hN2 st1 st2
    go_wp2_with fail
    go_loopw [4, 5] (fun wv iv wr => ∃ (j : Nat) (W : Option Addr) (cW : Nat) (D : List TargetR), j ≤ n ∧ j ≤ 24 ∧ iv = .int .i64 (j : Int) ∧ wv = .slice W D.length cW ∧ Nw w wr ∧ HO wr 42 37 W D.length cW (cellsOf D) ∧ Hid (LedI w wr zr (j : Int) W D)) (fun _ iv _ => n - (intOf iv).toNat)
    case atStart => exact ⟨0, none, 0, [], Nat.zero_le _, by decide, rfl, rfl, nw2, hW2, HI2⟩
    case round =>
      clear nw2 hW2 HI2
      obtain ⟨j, W, cW, D, hjn, hj24, rfl, rfl, nwj, hW, HI⟩ := hrel
      obtain ⟨s, L, hD⟩ := HI.out
      by_cases hjl : j < n
      · have hjI : (j : Int) < n := by omega
        have hjp : j < P.length := by omega
        have hrj : HR wr A (cellsOf P) := ⟨HRR.out.later nwj.out⟩
        by_cases h24 : j < 24
        · have h24I : (j : Int) < 24 := by omega
          subst hD
          have hj0 : (0 : Int) ≤ (j : Int) := by omega
          have hDl : s.D.length ≤ 1000000 := by have := L.dl; omega
          have hTl := L.ok.len
          obtain ⟨K, hK⟩ : ∃ K, K = (gt P j).kind := ⟨_, rfl⟩
          have hkK : nth (RowC.enc (gt P j)) 0 = some (.int .i64 K) := by rw [hK]; rfl
          clear hK
          by_cases k1 : K = 1
          · have e1 : (K == 1) = true := by simpa using k1
            clear k1
            go_wp2_with (first | ((with_reducible apply (stop_dst (dst := some 26))); (with_reducible apply (wpl_loadF (α := AcR) (k := j) (j := 0) (s := 40))); infer_instance; (exact rfl); infer_instance; (exact rfl); (exact hjp); (exact hkK)) | ((with_reducible apply (stop_dst (dst := some 36))); (with_reducible apply (wpl_loadEP (α := AcR) (k := j) (j := 1) (s := 40) (n := 37))); infer_instance; (exact rfl); infer_instance; (exact rfl); (decide); (exact hjp); (exact ac_t _); (exact RowC.len _)) | ((with_reducible apply (wpl_indexE (α := AcR) (t := 47))); (exact rfl); (exact rfl); infer_instance; infer_instance; (first | (with_reducible assumption) | omega | (focus (simp; done)) | (focus (simp; omega; done)) | decide); (exact rfl); (decide); (first | (with_reducible assumption) | omega | (focus (simp; done)) | (focus (simp; omega; done)) | decide)) | ((with_reducible apply (wpl_fieldE (t := 50))); (exact Tryz.underlying50); (exact rfl); (kernel_rfl); (exact rfl); infer_instance; (exact cells_pos (by decide) (by omega))))
            refine (publishS_calls L.R (gt P j).t L.ok.rise (by omega)).mono ?_
            rintro e w5 ⟨rfl, B', d', hN⟩
            obtain ⟨L5, hW5, nw5⟩ := L.next hN hW nwj (pubT_ok L.ok _) (by have := L.dl; show (s.D.length : Int) ≤ _; omega) (by have := L.xl; show (s.xl.length : Int) ≤ _; omega) L.u0 L.g L.u1 ⟨L.v.1, by have := L.v.2; show s.v ≤ _; omega⟩
            clear hN hW nwj L HI
            have hC9 := ledgerS_calls L5.R (by have := L5.dl; omega)
            have hdl9 : s.D.length ≤ 1000000000 := by have := L5.dl; omega
            go_wp2_with fail
            refine hC9.mono ?_
            rintro e w7 ⟨A7, c7, rfl, st7, hr7, _⟩
            have hr7' : HR w7 A7 (cellsOf (s.D)) := hr7
            have hW7 : HO w7 42 37 W (s.D.length) cW (cellsOf (s.D)) := ⟨hW5.out.chg st7.chg (fun _ _ h => h)⟩
            have hrW : HR w7 W (cellsOf (s.D)) := ⟨hW7.out.rd⟩
            clear hC9 hr7
            go_wp2_with fail
            refine (sameList_calls (P := s.D) (rfl) hdl9).mono ?_
            rintro e w8 ⟨rfl, st8⟩
            have hc58 : Chg nowhere w5 w8 := st7.chg.trans st8.chg (fun _ _ h => h)
            have L8 : LedS w w8 zr ((j : Int) + 1) W _ := L5.nw hc58
            have hW8 : HO w8 42 37 W (s.D.length) cW (cellsOf (s.D)) := ⟨hW7.out.chg st8.chg (fun _ _ h => h)⟩
            have nw8 : Nw w w8 := ⟨nw5.out.trans hc58 (fun _ _ h => h)⟩
            go_wp2_with fail
            exact ⟨⟨j + 1, W, cW, s.D, by omega, by omega, by go_num, rfl, nw8, hW8, Lib.hid ⟨_, L8, rfl⟩⟩, by simp [intOf]; omega⟩
          · have e1 : (K == 1) = false := by simpa using k1
            clear k1
            by_cases k2 : K = 2
            · have e2 : (K == 2) = true := by simpa using k2
              clear k2
              go_wp2_with (first | ((with_reducible apply (stop_dst (dst := some 26))); (with_reducible apply (wpl_loadF (α := AcR) (k := j) (j := 0) (s := 40))); infer_instance; (exact rfl); infer_instance; (exact rfl); (exact hjp); (exact hkK)) | ((with_reducible apply (wpl_indexE (α := AcR) (t := 47))); (exact rfl); (exact rfl); infer_instance; infer_instance; (first | (with_reducible assumption) | omega | (focus (simp; done)) | (focus (simp; omega; done)) | decide); (exact rfl); (decide); (first | (with_reducible assumption) | omega | (focus (simp; done)) | (focus (simp; omega; done)) | decide)) | ((with_reducible apply (wpl_fieldE (t := 50))); (exact Tryz.underlying50); (exact rfl); (kernel_rfl); (exact rfl); infer_instance; (exact cells_pos (by decide) (by omega))))
              have oPA : OffR (rpO zr s) A (cellsOf P) := ⟨fun hne ad e h => by have := rd_lt HRR.out hne e; have := L.lo _ (.inl h); omega⟩
              refine wp_region_N ((rpO zr s)) (by kernel_rfl) (fun wd _ _ => ?_)
              refine' takeH (i := 0) (v := _) rfl (by kernel_rfl) (by kernel_rfl) (by kernel_rfl) (fun _ _ _ h => h) (yields_of (by rfl) (fun w' _ => ?_)) inferInstance ?_
              rotate_left
              · (go_simp; try with_reducible rfl)
              try simp only [Act.put, sA]; try simp only [sB, sC]
              refine' takeH (i := 1) (v := _) rfl (by kernel_rfl) (by kernel_rfl) (by kernel_rfl) (fun _ _ _ h => h) (yields_of (by rfl) (fun w' _ => ?_)) inferInstance ?_
              rotate_left
              · (go_simp; try with_reducible rfl)
              try simp only [Act.put, sA]; try simp only [sB, sC]
              refine' takeH (i := 2) (v := _) rfl (by kernel_rfl) (by kernel_rfl) (by kernel_rfl) (fun _ _ _ h => h) (yields_of (by rfl) (fun w' _ => ?_)) inferInstance ?_
              rotate_left
              · (go_simp; try with_reducible rfl)
              try simp only [Act.put, sA]; try simp only [sB, sC]
              refine' takeH (i := 3) (v := _) rfl (by kernel_rfl) (by kernel_rfl) (by kernel_rfl) (fun _ _ _ h => h) (yields_of (by rfl) (fun w' _ => ?_)) inferInstance ?_
              rotate_left
              · ((with_reducible apply (ev_indexE (α := AcR) (t := 47))); (exact rfl); (exact rfl); infer_instance; infer_instance; (first | (with_reducible assumption) | omega | (focus (simp; done)) | (focus (simp; omega; done)) | decide); (exact rfl); (decide); (first | (with_reducible assumption) | omega | (focus (simp; done)) | (focus (simp; omega; done)) | decide))
              try simp only [Act.put, sA]; try simp only [sB, sC]
              refine' takeH (i := 4) (v := _) rfl (by kernel_rfl) (by kernel_rfl) (by kernel_rfl) (fun _ _ _ h => h) (yields_of (by rfl) (fun w' _ => ?_)) inferInstance ?_
              rotate_left
              · ((with_reducible apply (ev_fieldE (t := 50))); (exact Tryz.underlying50); (exact rfl); (kernel_rfl); (exact rfl); infer_instance; (exact cells_pos (by decide) (by omega)))
              try simp only [Act.put, sA]; try simp only [sB, sC]
              refine' takeH (i := 5) (v := _) rfl (by kernel_rfl) (by kernel_rfl) (by kernel_rfl) (fun _ _ _ h => h) (yields_of (by rfl) (fun w' _ => ?_)) inferInstance ?_
              rotate_left
              · ((with_reducible apply (ev_fieldE (t := 42))); (exact Tryz.underlying42); (exact rfl); (kernel_rfl); (exact rfl); infer_instance; (exact cells_pos (by decide) (by omega)))
              try simp only [Act.put, sA]; try simp only [sB, sC]
              refine' takeH (i := 6) (v := _) rfl (by kernel_rfl) (by kernel_rfl) (by kernel_rfl) (fun _ _ _ h => h) (yields_of (by rfl) (fun w' _ => ?_)) inferInstance ?_
              rotate_left
              · ((with_reducible apply (ev_loadF (α := AcR) (k := j) (j := 1) (s := 40))); infer_instance; (exact rfl); infer_instance; (exact rfl); (exact hjp); (exact ac_1 _))
              try simp only [Act.put, sA]; try simp only [sB, sC]
              refine' takeH (i := 7) (v := _) rfl (by kernel_rfl) (by kernel_rfl) (by kernel_rfl) (fun _ _ _ h => h) (yields_of (by rfl) (fun w' _ => ?_)) inferInstance ?_
              rotate_left
              · (go_simp; try with_reducible rfl)
              try simp only [Act.put, sA]; try simp only [sB, sC]
              refine' takeH (i := 8) (v := _) rfl (by kernel_rfl) (by kernel_rfl) (by kernel_rfl) (fun _ _ _ h => h) (yields_of (by rfl) (fun w' _ => ?_)) inferInstance ?_
              rotate_left
              · (go_simp; try with_reducible rfl)
              try simp only [Act.put, sA]; try simp only [sB, sC]
              refine' takeH (i := 9) (v := _) rfl (by kernel_rfl) (by kernel_rfl) (by kernel_rfl) (fun _ _ _ h => h) (yields_of (by rfl) (fun w' _ => ?_)) inferInstance ?_
              rotate_left
              · ((with_reducible apply (ev_indexE (α := AcR) (t := 47))); (exact rfl); (exact rfl); infer_instance; infer_instance; (first | (with_reducible assumption) | omega | (focus (simp; done)) | (focus (simp; omega; done)) | decide); (exact rfl); (decide); (first | (with_reducible assumption) | omega | (focus (simp; done)) | (focus (simp; omega; done)) | decide))
              try simp only [Act.put, sA]; try simp only [sB, sC]
              refine' takeH (i := 10) (v := _) rfl (by kernel_rfl) (by kernel_rfl) (by kernel_rfl) (fun _ _ _ h => h) (yields_of (by rfl) (fun w' _ => ?_)) inferInstance ?_
              rotate_left
              · ((with_reducible apply (ev_fieldE (t := 50))); (exact Tryz.underlying50); (exact rfl); (kernel_rfl); (exact rfl); infer_instance; (exact cells_pos (by decide) (by omega)))
              try simp only [Act.put, sA]; try simp only [sB, sC]
              refine' takeH (i := 11) (v := _) rfl (by kernel_rfl) (by kernel_rfl) (by kernel_rfl) (fun _ _ _ h => h) (yields_of (by rfl) (fun w' _ => ?_)) inferInstance ?_
              rotate_left
              · ((with_reducible apply (ev_fieldE (t := 42))); (exact Tryz.underlying42); (exact rfl); (kernel_rfl); (exact rfl); infer_instance; (exact cells_pos (by decide) (by omega)))
              try simp only [Act.put, sA]; try simp only [sB, sC]
              refine' takeH (i := 12) (v := _) rfl (by kernel_rfl) (by kernel_rfl) (by kernel_rfl) (fun _ _ _ h => h) (yields_of (by rfl) (fun w' _ => ?_)) inferInstance ?_
              rotate_left
              · ((with_reducible apply (ev_loadF (α := AcR) (k := j) (j := 37) (s := 40))); infer_instance; (exact rfl); infer_instance; (exact rfl); (exact hjp); (exact ac_37 _))
              try simp only [Act.put, sA]; try simp only [sB, sC]
              refine goH (i := 13) (by kernel_rfl) rfl (fun K_ hK_ => ?_)
              go_simp
              have Ld := L.nw (stepN (w0 := wr) (w := wd)).chg
              have hWd : HO wd 42 37 W s.D.length cW (cellsOf s.D) := ⟨hW.out.chg (stepN (w0 := wr) (w := wd)).chg (fun _ _ h => h)⟩
              have nwd : Nw w wd := ⟨nwj.out.trans (stepN (w0 := wr) (w := wd)).chg (fun _ _ h => h)⟩
              refine (removeS_calls Ld.R (gt P j).t.l (gt P j).t.ecu L.ok.rise (by omega)).mono ?_
              rintro e w5 ⟨rfl, B', d', hN⟩
              have st5 : Step (rpO zr s) wd w5 := ⟨hN.st⟩
              refine hK_.out _ _ inferInstance (fun _ => ?_)
              clear hK_ K_
              try simp only [Act.put, sA]; try simp only [sB, sC]
              refine wpAnyH_done (by kernel_rfl) ?_ _
              obtain ⟨L5, hW5, nw5⟩ := Ld.next hN hWd nwd (remT_ok L.ok _ _) (by have := L.dl; show (s.D.length : Int) ≤ _; omega) (by have := L.xl; show (s.xl.length : Int) ≤ _; omega) L.u0 L.g L.u1 ⟨L.v.1, by have := L.v.2; show s.v ≤ _; omega⟩
              clear hN hW nwj L hWd nwd Ld st5
              have hC9 := ledgerS_calls L5.R (by have := L5.dl; omega)
              have hdl9 : s.D.length ≤ 1000000000 := by have := L5.dl; omega
              go_wp2_with fail
              refine hC9.mono ?_
              rintro e w7 ⟨A7, c7, rfl, st7, hr7, _⟩
              have hr7' : HR w7 A7 (cellsOf (s.D)) := hr7
              have hW7 : HO w7 42 37 W (s.D.length) cW (cellsOf (s.D)) := ⟨hW5.out.chg st7.chg (fun _ _ h => h)⟩
              have hrW : HR w7 W (cellsOf (s.D)) := ⟨hW7.out.rd⟩
              clear hC9 hr7
              go_wp2_with fail
              refine (sameList_calls (P := s.D) (rfl) hdl9).mono ?_
              rintro e w8 ⟨rfl, st8⟩
              have hc58 : Chg nowhere w5 w8 := st7.chg.trans st8.chg (fun _ _ h => h)
              have L8 : LedS w w8 zr ((j : Int) + 1) W _ := L5.nw hc58
              have hW8 : HO w8 42 37 W (s.D.length) cW (cellsOf (s.D)) := ⟨hW7.out.chg st8.chg (fun _ _ h => h)⟩
              have nw8 : Nw w w8 := ⟨nw5.out.trans hc58 (fun _ _ h => h)⟩
              go_wp2_with fail
              exact ⟨⟨j + 1, W, cW, s.D, by omega, by omega, by go_num, rfl, nw8, hW8, Lib.hid ⟨_, L8, rfl⟩⟩, by simp [intOf]; omega⟩
            · have e2 : (K == 2) = false := by simpa using k2
              clear k2
              by_cases k3 : K = 3
              · have e3 : (K == 3) = true := by simpa using k3
                clear k3
                go_wp2_with (first | ((with_reducible apply (stop_dst (dst := some 26))); (with_reducible apply (wpl_loadF (α := AcR) (k := j) (j := 0) (s := 40))); infer_instance; (exact rfl); infer_instance; (exact rfl); (exact hjp); (exact hkK)) | ((with_reducible apply (wpl_indexE (α := AcR) (t := 47))); (exact rfl); (exact rfl); infer_instance; infer_instance; (first | (with_reducible assumption) | omega | (focus (simp; done)) | (focus (simp; omega; done)) | decide); (exact rfl); (decide); (first | (with_reducible assumption) | omega | (focus (simp; done)) | (focus (simp; omega; done)) | decide)) | ((with_reducible apply (wpl_fieldE (t := 50))); (exact Tryz.underlying50); (exact rfl); (kernel_rfl); (exact rfl); infer_instance; (exact cells_pos (by decide) (by omega))))
                by_cases hu : s.u1 ≤ 13
                · refine (signS_calls L.R 1 5 L.ok.rise L.ok.may L.ok.len hDl L.u1 hu L.v.1 (by have := L.v.2; omega) (by decide) (by decide) (by decide)).mono ?_
                  rintro e w5 ⟨rfl, xa, xb, xc, xd, zE, ev, C', cc', O', hN⟩
                  obtain ⟨L5, hW5, nw5⟩ := L.next hN hW nwj L.ok (by have := L.dl; show ((s.D ++ s.T).length : Int) ≤ _; rw [List.length_append]; omega) (by have := L.xl; show (s.xl.length : Int) ≤ _; omega) L.u0 L.g (by have := L.u1; show 0 ≤ s.u1 + 3; omega) ⟨by have := L.v.1; show 0 ≤ s.v + 1; omega, by have := L.v.2; show s.v + 1 ≤ _; omega⟩
                  clear hN hW nwj L HI
                  have hC8 := targetsS_calls L5.R (by show s.T.length ≤ _; omega)
                  dsimp only at hC8
                  go_wp2_with fail
                  refine hC8.mono ?_
                  rintro e w6 ⟨A6, c6, rfl, st6, hr6, _⟩
                  have L6 := L5.nw st6.chg
                  have hW6 : HO w6 42 37 W s.D.length cW (cellsOf s.D) := ⟨hW5.out.chg st6.chg (fun _ _ h => h)⟩
                  have nw6 : Nw w w6 := ⟨nw5.out.trans st6.chg (fun _ _ h => h)⟩
                  clear hC8 L5 hW5 nw5 st6
                  go_wp2_with (first | ((with_reducible apply (wpl_appendR (α := TargetR))); (exact rfl); (exact rfl); infer_instance; (exact hW6); (exact hr6); (exact rfl); (exact rfl); omega; (decide); (decide); intro W2 cW2 wN stN hoN hGN hcapN))
                  have hG2 : ∀ ad, W2 = some ad → W2 = W ∨ w6.heap.size ≤ ad.block := fun ad e => by
                    rcases hGN.out with h9 | h9
                    · exact .inl h9
                    · right
                      rw [h9] at e
                      injection e with e
                      rw [← e]
                      exact Nat.le_refl _
                  have L7 := L6.append stN.chg nw6.out.size hG2
                  have nw5 : Nw w wN := ⟨nw6.out.trans stN.chg (fun x hx ⟨ad, e, h⟩ => by have := (L6.off ad e).1; omega)⟩
                  have hW5 := hoN
                  clear hW6 hr6 L6 nw6 stN hGN hoN
                  have hD9 : ((s.D ++ s.T).length : Int) ≤ 16 * ((j : Int) + 1) := L7.dl
                  have hC9 := ledgerS_calls L7.R (by show (s.D ++ s.T).length ≤ _; omega)
                  dsimp only at hC9
                  rw [List.length_append] at hC9 hD9
                  have hdl9 : s.D.length + s.T.length ≤ 1000000000 := by omega
                  go_wp2_with fail
                  refine hC9.mono ?_
                  rintro e w7 ⟨A7, c7, rfl, st7, hr7, _⟩
                  have hr7' : HR w7 A7 (cellsOf (s.D ++ s.T)) := hr7
                  have hW7 : HO w7 42 37 W2 (s.D.length + s.T.length) cW2 (cellsOf (s.D ++ s.T)) := ⟨hW5.out.chg st7.chg (fun _ _ h => h)⟩
                  have hrW : HR w7 W2 (cellsOf (s.D ++ s.T)) := ⟨hW7.out.rd⟩
                  clear hC9 hr7
                  go_wp2_with fail
                  refine (sameList_calls (P := s.D ++ s.T) (List.length_append) hdl9).mono ?_
                  rintro e w8 ⟨rfl, st8⟩
                  have hc58 : Chg nowhere wN w8 := st7.chg.trans st8.chg (fun _ _ h => h)
                  have L8 : LedS w w8 zr ((j : Int) + 1) W2 _ := L7.nw hc58
                  have hW8 : HO w8 42 37 W2 (s.D.length + s.T.length) cW2 (cellsOf (s.D ++ s.T)) := ⟨hW7.out.chg st8.chg (fun _ _ h => h)⟩
                  have nw8 : Nw w w8 := ⟨nw5.out.trans hc58 (fun _ _ h => h)⟩
                  go_wp2_with fail
                  exact ⟨⟨j + 1, W2, cW2, s.D ++ s.T, by omega, by omega, by go_num, by rw [List.length_append], nw8, by rw [List.length_append]; exact hW8, Lib.hid ⟨_, L8, rfl⟩⟩, by simp [intOf]; omega⟩
                · refine (signU_calls L.R 1 5 (by decide) (by decide) (by decide) (by omega)).mono ?_
                  rintro e w5 ⟨rfl, st5⟩
                  obtain ⟨L5, hW5, nw5⟩ := L.same st5 hW nwj hj0
                  clear hW nwj L HI st5
                  have hC9 := ledgerS_calls L5.R (by have := L5.dl; omega)
                  have hdl9 : s.D.length ≤ 1000000000 := by have := L5.dl; omega
                  go_wp2_with fail
                  refine hC9.mono ?_
                  rintro e w7 ⟨A7, c7, rfl, st7, hr7, _⟩
                  have hr7' : HR w7 A7 (cellsOf (s.D)) := hr7
                  have hW7 : HO w7 42 37 W (s.D.length) cW (cellsOf (s.D)) := ⟨hW5.out.chg st7.chg (fun _ _ h => h)⟩
                  have hrW : HR w7 W (cellsOf (s.D)) := ⟨hW7.out.rd⟩
                  clear hC9 hr7
                  go_wp2_with fail
                  refine (sameList_calls (P := s.D) (rfl) hdl9).mono ?_
                  rintro e w8 ⟨rfl, st8⟩
                  have hc58 : Chg nowhere w5 w8 := st7.chg.trans st8.chg (fun _ _ h => h)
                  have L8 : LedS w w8 zr ((j : Int) + 1) W _ := L5.nw hc58
                  have hW8 : HO w8 42 37 W (s.D.length) cW (cellsOf (s.D)) := ⟨hW7.out.chg st8.chg (fun _ _ h => h)⟩
                  have nw8 : Nw w w8 := ⟨nw5.out.trans hc58 (fun _ _ h => h)⟩
                  go_wp2_with fail
                  exact ⟨⟨j + 1, W, cW, s.D, by omega, by omega, by go_num, rfl, nw8, hW8, Lib.hid ⟨_, L8, rfl⟩⟩, by simp [intOf]; omega⟩
              · have e3 : (K == 3) = false := by simpa using k3
                clear k3
                go_wp2_with (first | ((with_reducible apply (stop_dst (dst := some 26))); (with_reducible apply (wpl_loadF (α := AcR) (k := j) (j := 0) (s := 40))); infer_instance; (exact rfl); infer_instance; (exact rfl); (exact hjp); (exact hkK)) | ((with_reducible apply (wpl_indexE (α := AcR) (t := 47))); (exact rfl); (exact rfl); infer_instance; infer_instance; (first | (with_reducible assumption) | omega | (focus (simp; done)) | (focus (simp; omega; done)) | decide); (exact rfl); (decide); (first | (with_reducible assumption) | omega | (focus (simp; done)) | (focus (simp; omega; done)) | decide)) | ((with_reducible apply (wpl_fieldE (t := 50))); (exact Tryz.underlying50); (exact rfl); (kernel_rfl); (exact rfl); infer_instance; (exact cells_pos (by decide) (by omega))))
                by_cases hu : s.u0 < 16
                · refine (rotateS_calls L.R (by have := L.xl; omega) L.u0.1 hu (by have := L.g; have := L.u0.1; omega) (by have := L.g; omega)).mono ?_
                  rintro e w5 ⟨rfl, zk, X', xc', ev, O', hN⟩
                  obtain ⟨L5, hW5, nw5⟩ := L.next hN hW nwj L.ok (by have := L.dl; show (s.D.length : Int) ≤ _; omega) (by have := L.xl; show ((s.xl ++ [ev]).length : Int) ≤ _; rw [List.length_append]; show ((s.xl.length + 1 : Nat) : Int) ≤ _; omega) ⟨by have := L.u0.1; show 0 ≤ s.u0 + 1; omega, by show s.u0 + 1 ≤ 16; omega⟩ (by have := L.g; show s.g + 1 = 1 + (s.u0 + 1); omega) (by show (0 : Int) ≤ 0; decide) ⟨L.v.1, by have := L.v.2; show s.v ≤ _; omega⟩
                  clear hN hW nwj L HI
                  have hC9 := ledgerS_calls L5.R (by have := L5.dl; omega)
                  have hdl9 : s.D.length ≤ 1000000000 := by have := L5.dl; omega
                  go_wp2_with fail
                  refine hC9.mono ?_
                  rintro e w7 ⟨A7, c7, rfl, st7, hr7, _⟩
                  have hr7' : HR w7 A7 (cellsOf (s.D)) := hr7
                  have hW7 : HO w7 42 37 W (s.D.length) cW (cellsOf (s.D)) := ⟨hW5.out.chg st7.chg (fun _ _ h => h)⟩
                  have hrW : HR w7 W (cellsOf (s.D)) := ⟨hW7.out.rd⟩
                  clear hC9 hr7
                  go_wp2_with fail
                  refine (sameList_calls (P := s.D) (rfl) hdl9).mono ?_
                  rintro e w8 ⟨rfl, st8⟩
                  have hc58 : Chg nowhere w5 w8 := st7.chg.trans st8.chg (fun _ _ h => h)
                  have L8 : LedS w w8 zr ((j : Int) + 1) W _ := L5.nw hc58
                  have hW8 : HO w8 42 37 W (s.D.length) cW (cellsOf (s.D)) := ⟨hW7.out.chg st8.chg (fun _ _ h => h)⟩
                  have nw8 : Nw w w8 := ⟨nw5.out.trans hc58 (fun _ _ h => h)⟩
                  go_wp2_with fail
                  exact ⟨⟨j + 1, W, cW, s.D, by omega, by omega, by go_num, rfl, nw8, hW8, Lib.hid ⟨_, L8, rfl⟩⟩, by simp [intOf]; omega⟩
                · refine (rotateU_calls L.R (by omega)).mono ?_
                  rintro e w5 ⟨rfl, st5⟩
                  obtain ⟨L5, hW5, nw5⟩ := L.same st5 hW nwj hj0
                  clear hW nwj L HI st5
                  have hC9 := ledgerS_calls L5.R (by have := L5.dl; omega)
                  have hdl9 : s.D.length ≤ 1000000000 := by have := L5.dl; omega
                  go_wp2_with fail
                  refine hC9.mono ?_
                  rintro e w7 ⟨A7, c7, rfl, st7, hr7, _⟩
                  have hr7' : HR w7 A7 (cellsOf (s.D)) := hr7
                  have hW7 : HO w7 42 37 W (s.D.length) cW (cellsOf (s.D)) := ⟨hW5.out.chg st7.chg (fun _ _ h => h)⟩
                  have hrW : HR w7 W (cellsOf (s.D)) := ⟨hW7.out.rd⟩
                  clear hC9 hr7
                  go_wp2_with fail
                  refine (sameList_calls (P := s.D) (rfl) hdl9).mono ?_
                  rintro e w8 ⟨rfl, st8⟩
                  have hc58 : Chg nowhere w5 w8 := st7.chg.trans st8.chg (fun _ _ h => h)
                  have L8 : LedS w w8 zr ((j : Int) + 1) W _ := L5.nw hc58
                  have hW8 : HO w8 42 37 W (s.D.length) cW (cellsOf (s.D)) := ⟨hW7.out.chg st8.chg (fun _ _ h => h)⟩
                  have nw8 : Nw w w8 := ⟨nw5.out.trans hc58 (fun _ _ h => h)⟩
                  go_wp2_with fail
                  exact ⟨⟨j + 1, W, cW, s.D, by omega, by omega, by go_num, rfl, nw8, hW8, Lib.hid ⟨_, L8, rfl⟩⟩, by simp [intOf]; omega⟩
        · have h24I : ¬ (j : Int) < 24 := by omega
          go_wp2_with fail
          refine (rpKnownG_calls _).mono ?_
          rintro e w5 ⟨rfl, st5⟩
          go_wp2_with fail
          go_ret
          exact ⟨rfl, (stepN (w0 := w)).chg⟩
      · have hjI : ¬ (j : Int) < n := by omega
        go_wp2_with fail
        refine (rpKnownG_calls _).mono ?_
        rintro e w5 ⟨rfl, st5⟩
        go_wp2_with fail
        go_ret
        exact ⟨rfl, (stepN (w0 := w)).chg⟩
end Go.Proofs.YtgjnjhhhbkidbaaGreat
